/- The program's DisturbanceOf. -/
import Derived.Test.YtapmehgdnofgnaaISpO
import Derived.Test.YtapmehgdnofgnaaLsM
namespace Go.Proofs.Ytapmehgdnofgnaa
set_option maxRecDepth 100000
open Go.RowKit

theorem OwnR.away {w : World} {B b : Nat} {v : Value} {ll : List (List Int)} (h : OwnR w B v ll) (hb : b < B) (u : Value) : OwnR (w.setCell ⟨b, 0, none⟩ u) B v ll := by
  have hlt := h.lt
  obtain ⟨rs, h0, hrs, hap⟩ := h
  have hg := setGrown w b u
  refine ⟨rs, World.ownsRow.kept h0 hg ?_, hrs.grown hg (fun i hi k hk e => ?_), hap⟩
  · cases hv : v.ownBlock with
    | none => exact Or.inl rfl
    | some k => exact Or.inr (fun e => by have := (hlt k hv).1; cases e; omega)
  · have := (hrs.lt i hi k hk).1
    cases e
    omega
theorem lasts_rows (L : List (List Int)) : Lasts (fun B v w => OwnR w B v L) := ⟨fun h o => o.mono h, fun h o => o.away h _⟩
theorem infoR8 : (Try.prog.info? 31).map (fun i => (i.zero, i.size, i.bytes)) = some (some (.slice none 0 0), 1, 24) := by kernel_rfl
theorem infoI8 : (Try.prog.info? 3).map (fun i => (i.zero, i.size, i.bytes)) = some (some (.int .i64 0), 1, 8) := by kernel_rfl
set_option maxRecDepth 100000 in
set_option maxHeartbeats 8000000 in
theorem disturbanceOf1_any (v : Value) (m : List (List Int)) (p : Addr) (w : World) (hp : w.cell? p = some v) (hv : IR w v m) (hlen : sz2 m ≤ 1048576) :
    Calls Try.prog 45 #[.pointer (some p)] w (Tries w (kOf (cdsOk m)) (fun B v w => OwnR w B v (diA m))) := by
  have HC := Lib.hid (codesFrom_any v m w hv hlen)
  obtain ⟨pa, cap, rfl⟩ := hv.slice
  cases hc : cdsOk m with
  | false =>
    rw [hc, kOf_false] at HC
    rw [kOf_false]
    clear hv hc
    go_enter Try.func45, Try.ntmps45
    go_wp2_with fail
    refine (HC.out).mono ?_
    rintro e w1 ⟨hb, ⟨hk, _⟩ | ⟨hk, rfl⟩⟩
    · cases hk
    · exact ⟨rfl, hb, Or.inr ⟨by decide, rfl⟩⟩
  | true =>
    rw [hc, kOf_true] at HC
    rw [kOf_true]
    have hok := cdsOk_allN hc
    obtain ⟨M, hM⟩ : ∃ M : Nat → Nat → Int, M = fun i j => dtN (m.getD i []) (m.getD j []) := ⟨_, rfl⟩
    have hd : diA m = genR m.length (fun i => gen m.length (M i)) := by unfold diA; rw [hc, if_pos rfl, hM]; rfl
    rw [hd]
    have h8 := (cdsOk_parts hc).1.2
    obtain ⟨i0, hi, hz0, hz1, hz2⟩ := info_parts infoR8
    have HI0 := Lib.hid hi
    have HZ00 := Lib.hid hz0
    have HZ10 := Lib.hid hz1
    have HZ20 := Lib.hid hz2
    clear hi hz0 hz1 hz2
    obtain ⟨i1, hi, hz0, hz1, hz2⟩ := info_parts infoI8
    have HI1 := Lib.hid hi
    have HZ01 := Lib.hid hz0
    have HZ11 := Lib.hid hz1
    have HZ21 := Lib.hid hz2
    clear hi hz0 hz1 hz2
    have HDT := Lib.hid (fun i j (hi : i < m.length) (hj : j < m.length) (w1 : World) => show Calls Try.prog 46 #[.agg (cdD m i), .agg (cdD m j)] w1 (Ret w1 (.int .i64 (M i j))) from by
      rw [hM]; exact disturbance_any (m.getD i []) (m.getD j []) (hok i hi).1 (hok j hj).1 (by rw [(hok i hi).2, (hok j hj).2]) w1)
    have HSZ := Lib.hid (show ∀ x, (cdD m x).size = 33 from fun x => phC_size _)
    have HONE := Lib.hid (show ∀ x, (cdD m x).all (·.oneCell') = true from fun x => phC_one _)
    have HIN := Lib.hid (show ∀ x, (Try.prog.info? 61).map (·.size) = some (cdD m x).size from fun x => infoPhC8 _)
    have SZZ := Lib.hid (phA_size z32 0 z32_length)
    have ZZ := Lib.hid zeroPh
    obtain ⟨Z, hZ⟩ : ∃ Z, Z = phA z32 0 := ⟨_, rfl⟩
    rw [← hZ] at SZZ ZZ
    have HCA := Lib.hid (show ∀ B v w, CodesAt m B v w → ∃ g, v = .slice (some ⟨g, 0, none⟩) m.length m.length ∧ B ≤ g ∧ AllAt w g 33 m.length (cdD m) m.length from fun B v w h => h)
    obtain ⟨DD, hDD⟩ : ∃ D, D = cdD m := ⟨_, rfl⟩
    rw [← hDD] at HDT HSZ HONE HIN HCA
    obtain ⟨n, hn⟩ : ∃ n, n = m.length := ⟨_, rfl⟩
    rw [← hn] at HDT HCA h8 ⊢
    clear hv hc hok hM hd hZ hDD hn
    go_enter Try.func45, Try.ntmps45
    go_wp2_with fail
    refine (HC.out).mono ?_
    rintro e w1 ⟨hb, ⟨-, v1, rfl, hcs⟩ | ⟨hk, rfl⟩⟩
    case inr => exact absurd rfl hk
    obtain ⟨gC, rfl, hgC, hall⟩ := HCA.out _ _ _ hcs
    have B1 := Lib.hid hb
    have FA1 := Lib.hid hall
    clear hb hcs hall
    go_wp2_with (at_make; refine wpList_make_full _ rfl _ _ 22 rfl w1.heap.size 31 i0 (.slice none 0 0) 1 Try.underlying22 HI0.out HZ00.out HZ10.out _ _ _ _ n rfl rfl rfl rfl ?b2_0 ?b3_0 (Nat.le_refl _) ?_)
    case b2_0 => rw [HZ20.out]; omega
    case b3_0 => unfold maxLen; omega
    intro w2 hown0 hgrow0
    rw [made_rows] at hown0
    have hb : Below w1.heap.size w1 w2 := (Below.refl _ _).grown hgrow0 (Nat.le_refl _) (fun k h => by cases h)
    have OO0 := Lib.hid (OwnR.made hown0)
    rw [lsP_start n M] at OO0
    have B2_ := Lib.hid (joins B1.out hb)
    have FA2_ := Lib.hid (FA1.out.below hb)
    have LO := Lib.hid B1.out.size
    have NCO := Lib.hid (show gC ≠ w1.heap.size from Nat.ne_of_lt FA1.out.lt)
    clear hown0 hgrow0 hb
    obtain ⟨gO, hgO⟩ : ∃ g, g = w1.heap.size := ⟨_, rfl⟩
    have HGO := Lib.hid hgO
    rw [← hgO] at OO0 LO NCO ⊢
    have HGC := Lib.hid (show gC < gO from by rw [hgO]; exact FA1.out.lt)
    clear hgO B1 FA1
    go_wp2_with fail
    go_loopw [15] (fun q wr => ∃ a : Nat, a ≤ n ∧ q = .int .i64 a ∧ AllAt wr gC 33 n DD n ∧ OwnR wr gO (.slice (some ⟨gO, 0, none⟩) n n) (lsP n M a) ∧ Below w.heap.size w wr) (fun q _ => n - (intOf q).toNat)
    case atStart => exact ⟨0, Nat.zero_le _, rfl, FA2_.out, OO0.out, B2_.out⟩
    case round =>
      obtain ⟨a, ha, rfl, hfa, ho, hbel⟩ := hrel
      have FA := Lib.hid hfa
      have RO := Lib.hid ho
      have BR := Lib.hid hbel
      clear hfa ho hbel
      obtain ⟨wo, hwo⟩ : ∃ w', w' = wr := ⟨_, rfl⟩
      rw [← hwo] at FA RO BR ⊢
      clear hwo
      by_cases hlt : a < n
      · have h0 : (0 : Int) ≤ (a : Int) := by omega
        have h1 : (a : Int) < (n : Int) := by omega
        have LGO := Lib.hid (RO.out.lt _ rfl).2
        go_wp2_with (first
          | ((with_reducible refine at_op (Op.load 61 (.tmp 18)) ?_); refine wpList_load_at rfl 61 (.tmp 18) rfl gC 33 n n a DD rfl FA.out hlt (HSZ.out a) _ Try.underlying61 rfl infoPh ?_)
          | ((with_reducible refine at_op (d := some 5) (Op.alloc 61) ?_); refine wpList_alloc_row rfl 61 rfl Z ZZ.out ?_; intro w31 hr hb hz; have R31_a := Lib.hid hr; have L31_a := Lib.hid (show wo.heap.size ≤ wo.heap.size from Nat.le_refl _); have D31 := Lib.hid (hb); clear hr hb hz)
          | ((with_reducible refine at_op (Op.store 61 (.tmp 5) (.tmp 19)) ?_); refine wpList_put_row rfl 61 (.tmp 5) (.tmp 19) rfl (wo.heap.size) (DD a) rfl rfl 61 Z R31_a.out 33 infoPh (HSZ.out a) SZZ.out (HONE.out a) wo.heap.size wo D31.out L31_a.out ?_; intro w32 hr hs hb; have RA := Lib.hid hr; have F32 := Lib.hid (FA.out.below hb); have O32 := Lib.hid (RO.out.below hb); have B32 := Lib.hid (joins BR.out hb); clear hr hs hb)
          | (at_make; refine wpList_make_full _ rfl _ _ 31 rfl w32.heap.size 3 i1 (.int .i64 0) 1 Try.underlying31 HI1.out HZ01.out HZ11.out _ _ _ _ n rfl rfl rfl rfl ?b2_1 ?b3_1 (Nat.le_refl _) ?_))
        case b2_1 => rw [HZ21.out]; omega
        case b3_1 => unfold maxLen; omega
        intro w5 hown0 hgrow0
        rw [made_zeros] at hown0
        have hb : Below w32.heap.size w32 w5 := (Below.refl _ _).grown hgrow0 (Nat.le_refl _) (fun k h => by cases h)
        have RA5 := Lib.hid (rowB RA.out hb)
        have FA5 := Lib.hid (F32.out.below hb)
        have RO5 := Lib.hid (O32.out.below hb)
        have B5 := Lib.hid (joins B32.out hb)
        have hst := O32.out.stored (i := a) (by rw [lsP_length]) hb (Nat.le_of_lt (O32.out.lt _ rfl).2) (r := .slice (some ⟨w32.heap.size, 0, none⟩) n n) (l := List.replicate n 0) (by unfold Own; rw [List.length_replicate]; exact hown0) (by rw [lsP_length]; exact hlt)
        rw [lsQ_start] at hst
        obtain ⟨u0, cu, fu, -⟩ := RO5.out.cellAt (by rw [lsP_length]) a (by rw [lsP_length]; exact hlt)
        have S5 := Lib.hid hst
        have NOA := Lib.hid (show gO ≠ wo.heap.size from Nat.ne_of_lt LGO.out)
        have M5 := Lib.hid ((heap_setCell_other w5 ⟨gO, a, none⟩ (wo.heap.size) (.slice (some ⟨w32.heap.size, 0, none⟩) n n) (Ne.symm NOA.out)).trans RA5.out)
        have FA6 := Lib.hid (FA5.out.block (heap_setCell_other w5 ⟨gO, a, none⟩ gC (.slice (some ⟨w32.heap.size, 0, none⟩) n n) NCO.out) (by simpa using FA5.out.lt))
        have B6 := Lib.hid (B5.out.setCell (p := ⟨gO, a, none⟩) LO.out (.slice (some ⟨w32.heap.size, 0, none⟩) n n))
        have LR := Lib.hid (show wo.heap.size < w32.heap.size from row_lt RA.out)
        have cv := World.cell?_setCell_same w5 ⟨gO, a, none⟩ (.slice (some ⟨w32.heap.size, 0, none⟩) n n) cu
        have CV := Lib.hid cv
        clear hown0 hgrow0 hb hst
        go_wp2_with fail
        go_loopw [28] (fun q wr => ∃ b : Nat, b ≤ n ∧ q = .int .i64 b ∧ wr.heap[wo.heap.size]? = some (.cells (DD a) 61 (0, 0)) ∧ AllAt wr gC 33 n DD n ∧ OwnR wr gO (.slice (some ⟨gO, 0, none⟩) n n) (lsQ n M a b) ∧ wr.cell? ⟨gO, a, none⟩ = some (.slice (some ⟨w32.heap.size, 0, none⟩) n n) ∧ Below w.heap.size w wr) (fun q _ => n - (intOf q).toNat)
        case atStart => exact ⟨0, Nat.zero_le _, rfl, M5.out, FA6.out, S5.out, CV.out, B6.out⟩
        case round =>
          obtain ⟨b, hb, rfl, hm, hfa, ho, hcc, hbel⟩ := hrel
          have RA1 := Lib.hid hm
          have FA1 := Lib.hid hfa
          have RO1 := Lib.hid ho
          have CC1 := Lib.hid hcc
          have BR1 := Lib.hid hbel
          clear hm hfa ho hcc hbel M5 FA6 S5 CV B6 cv cu fu
          by_cases hlb : b < n
          · have h0b : (0 : Int) ≤ (b : Int) := by omega
            have h1b : (b : Int) < (n : Int) := by omega
            go_wp2_with (first
              | ((with_reducible refine at_op (Op.load 61 (.tmp 31)) ?_); refine wpList_load_at rfl 61 (.tmp 31) rfl gC 33 n n b DD rfl FA1.out hlb (HSZ.out b) _ Try.underlying61 rfl infoPh ?_)
              | ((with_reducible refine at_op (d := some 7) (Op.alloc 61) ?_); refine wpList_alloc_row rfl 61 rfl Z ZZ.out ?_; intro w41 hr hb hz; have R41_a := Lib.hid hr; have L41_a := Lib.hid (show wr.heap.size ≤ wr.heap.size from Nat.le_refl _); have D41 := Lib.hid (hb); clear hr hb hz)
              | ((with_reducible refine at_op (Op.store 61 (.tmp 7) (.tmp 32)) ?_); refine wpList_put_row rfl 61 (.tmp 7) (.tmp 32) rfl (wr.heap.size) (DD b) rfl rfl 61 Z R41_a.out 33 infoPh (HSZ.out b) SZZ.out (HONE.out b) wr.heap.size wr D41.out L41_a.out ?_; intro wq hr hs hb; have RB2 := Lib.hid hr; have RA2 := Lib.hid (rowB RA1.out hb); have FA2 := Lib.hid (FA1.out.below hb); have RO2 := Lib.hid (RO1.out.below hb); have CC2 := Lib.hid (keepc hb CC1.out); have B2 := Lib.hid (joins BR1.out hb); clear hr hs hb))
            have HD := Lib.hid (HDT.out a b hlt hlb)
            obtain ⟨kk, cc, ck, cz, fz, hBk, hkl, -⟩ := RO2.out.cellSet (by rw [lsQ_length]) a (by rw [lsQ_length]; exact hlt) b (by rw [lsQ_row n M a b hlt, gen_length]; exact hlb)
            obtain ⟨hkk, rfl⟩ : kk = w32.heap.size ∧ n = cc := by
              have e := ck.symm.trans CC2.out
              simp only [Option.some.injEq, Value.slice.injEq, Addr.mk.injEq] at e
              exact ⟨e.1.1, e.2.2.symm⟩
            have CC := Lib.hid (show wq.cell? ⟨gO, a, none⟩ = some (.slice (some ⟨kk, 0, none⟩) n n) by rw [hkk]; exact CC2.out)
            have LKR := Lib.hid (show kk < wr.heap.size from by rw [hkk]; exact Nat.lt_of_le_of_lt (Nat.le_refl _) (by
              obtain ⟨k3, c3, e3, -, -, -, hk3, -⟩ := RO1.out.cellSet (by rw [lsQ_length]) a (by rw [lsQ_length]; exact hlt) b (by rw [lsQ_row n M a b hlt, gen_length]; exact hlb)
              have e := e3.symm.trans CC1.out
              simp only [Option.some.injEq, Value.slice.injEq, Addr.mk.injEq] at e
              rw [← e.1.1]; exact hk3))
            have NKB := Lib.hid (show wr.heap.size ≠ kk by have := LKR.out; omega)
            have NKA := Lib.hid (show wo.heap.size ≠ kk by have := LR.out; rw [hkk]; omega)
            have NKO := Lib.hid (show kk ≠ gO by have := LR.out; have := LGO.out; rw [hkk]; omega)
            have NKC := Lib.hid (show gC ≠ kk by have := LR.out; have := LGO.out; have := HGC.out; rw [hkk]; omega)
            obtain ⟨z0, hz0⟩ : ∃ z, z = ((lsQ n M a b).getD a []).getD b 0 := ⟨_, rfl⟩
            rw [← hz0] at cz
            obtain ⟨z, hz⟩ : ∃ z, z = M a b := ⟨_, rfl⟩
            have HZM := Lib.hid (show M a b = z from hz.symm)
            rw [← hz] at HD
            have CZ := Lib.hid cz
            have FZ := Lib.hid (And.intro hkl fz)
            have CCL := CC.out
            rw [hkk] at CCL
            rw [← hkk] at CCL
            have HKK := Lib.hid hkk
            clear hkk ck cz fz hBk hkl hz0 hz CC2 CCL
            go_wp2_with fail
            refine wp_region_held_drew (S := (fun w' => World.grownBy wq w' (some (kk)))) (by kernel_rfl) (grownDrew (World.grownBy.refl _ _)) ?_
            obtain ⟨d1, hdw⟩ : ∃ w', w' = wq.drew := ⟨_, rfl⟩
            rw [← hdw]
            have hb : Below wq.heap.size wq d1 := by rw [hdw]; exact belowN (Below.refl _ _) 1
            have F1_RO := Lib.hid (RO2.out.below hb)
            have F1_CC := Lib.hid (keepc hb CC.out)
            have F1_CZ := Lib.hid (keepc hb CZ.out)
            have F1_FZ := Lib.hid (And.intro (Nat.lt_of_lt_of_le FZ.out.1 hb.size) ((hb.frozen (p := ⟨kk, b, none⟩) FZ.out.1).trans FZ.out.2))
            have F1_RA := Lib.hid (rowB RA2.out hb)
            have F1_FA := Lib.hid (FA2.out.below hb)
            have F1_B := Lib.hid (joins B2.out hb)
            clear hdw hb
            intro hHeld
            refine' wpAnyH_take (i := 0) (v := _) rfl (by kernel_rfl) (by kernel_rfl) (by kernel_rfl) (fun _ _ _ h => h) (Or.inl ⟨by rfl, ?hy1⟩) (by assumption) ?rest1
            case hy1 =>
              intro w h
              (try clear h)
              go_simp
              (try with_reducible rfl)
            (try simp only [Act.put, List.getElem_toArray, List.getElem_cons_zero, List.setIfInBounds_toArray, List.set_cons_zero, List.set_cons_succ])
            refine' wpAnyH_take (i := 1) (v := _) rfl (by kernel_rfl) (by kernel_rfl) (by kernel_rfl) (fun _ _ _ h => h) (Or.inl ⟨by rfl, ?hy2⟩) (by assumption) ?rest2
            case hy2 =>
              intro w h
              (try clear h)
              go_simp
              (try with_reducible rfl)
            (try simp only [Act.put, List.getElem_toArray, List.getElem_cons_zero, List.getElem_cons_succ, List.setIfInBounds_toArray, List.set_cons_zero, List.set_cons_succ])
            refine' wpAnyH_take (i := 2) (v := _) rfl (by kernel_rfl) (by kernel_rfl) (by kernel_rfl) (fun _ _ _ h => h) (Or.inl ⟨by rfl, ?hy3⟩) (by assumption) ?rest3
            case hy3 =>
              intro w h
              (try clear h)
              go_simp
              (try with_reducible rfl)
            (try simp only [Act.put, List.getElem_toArray, List.getElem_cons_zero, List.getElem_cons_succ, List.setIfInBounds_toArray, List.set_cons_zero, List.set_cons_succ])
            refine' wpAnyH_take (i := 3) (v := _) rfl (by kernel_rfl) (by kernel_rfl) (by kernel_rfl) (fun _ _ _ h => h) (Or.inl ⟨by rfl, ?hy4⟩) (by assumption) ?rest4
            case hy4 =>
              intro w h
              have c1 := cellR h CC.out (fun e => NKO.out (Option.some.inj e))
              (try clear h)
              go_simp
              (try with_reducible rfl)
            (try simp only [Act.put, List.getElem_toArray, List.getElem_cons_zero, List.getElem_cons_succ, List.setIfInBounds_toArray, List.set_cons_zero, List.set_cons_succ])
            refine' wpAnyH_take (i := 4) (v := _) rfl (by kernel_rfl) (by kernel_rfl) (by kernel_rfl) (fun _ _ _ h => h) (Or.inl ⟨by rfl, ?hy5⟩) (by assumption) ?rest5
            case hy5 =>
              intro w h
              (try clear h)
              go_simp
              (try with_reducible rfl)
            (try simp only [Act.put, List.getElem_toArray, List.getElem_cons_zero, List.getElem_cons_succ, List.setIfInBounds_toArray, List.set_cons_zero, List.set_cons_succ])
            refine' wpAnyH_take (i := 5) (v := _) rfl (by kernel_rfl) (by kernel_rfl) (by kernel_rfl) (fun _ _ _ h => h) (yieldsPart (by rfl) 61 (.tmp 5) rfl (wo.heap.size) 0 rfl (DD a) (DD a) 61 (0, 0) _ (fun w h => rowG8 RA2.out h (fun e => NKA.out (Option.some.inj e).symm)) (Part.self _) Try.underlying61 rfl (HIN.out a)) (by assumption) ?rest6
            (try simp only [Act.put, List.getElem_toArray, List.getElem_cons_zero, List.getElem_cons_succ, List.setIfInBounds_toArray, List.set_cons_zero, List.set_cons_succ])
            refine' wpAnyH_take (i := 6) (v := _) rfl (by kernel_rfl) (by kernel_rfl) (by kernel_rfl) (fun _ _ _ h => h) (yieldsPart (by rfl) 61 (.tmp 7) rfl (wr.heap.size) 0 rfl (DD b) (DD b) 61 (0, 0) _ (fun w h => rowG8 RB2.out h (fun e => NKB.out (Option.some.inj e).symm)) (Part.self _) Try.underlying61 rfl (HIN.out b)) (by assumption) ?rest7
            (try simp only [Act.put, List.getElem_toArray, List.getElem_cons_zero, List.getElem_cons_succ, List.setIfInBounds_toArray, List.set_cons_zero, List.set_cons_succ])
            refine wpAnyH_ready (rs := [7]) (by kernel_rfl) (by simp) ?_
            refine AllReadyH.cons rfl (fun K hK => ?_) AllReadyH.nil
            go_simp
            refine (HD.out _).mono ?_
            rintro e d2 ⟨rfl, hb⟩
            have F2_RO := Lib.hid (F1_RO.out.below hb)
            have F2_CC := Lib.hid (keepc hb F1_CC.out)
            have F2_CZ := Lib.hid (keepc hb F1_CZ.out)
            have F2_FZ := Lib.hid (And.intro (Nat.lt_of_lt_of_le F1_FZ.out.1 hb.size) ((hb.frozen (p := ⟨kk, b, none⟩) F1_FZ.out.1).trans F1_FZ.out.2))
            have F2_RA := Lib.hid (rowB F1_RA.out hb)
            have F2_FA := Lib.hid (F1_FA.out.below hb)
            have F2_B := Lib.hid (joins F1_B.out hb)
            have hHeld := grownB hHeld hb
            clear hb
            refine hK.out _ _ hHeld (fun hHeld => ?_)
            clear hK K
            (try simp only [Act.put, List.getElem_toArray, List.getElem_cons_zero, List.getElem_cons_succ, List.setIfInBounds_toArray, List.set_cons_zero, List.set_cons_succ])
            refine' wpAnyH_take (i := 8) (v := _) rfl (by kernel_rfl) (by kernel_rfl) (by kernel_rfl) (fun _ _ _ h => h) (Or.inl ⟨by rfl, ?hy8⟩) (by assumption) ?rest8
            case hy8 =>
              intro w h
              (try clear h)
              go_simp
              (try with_reducible rfl)
            (try simp only [Act.put, List.getElem_toArray, List.getElem_cons_zero, List.getElem_cons_succ, List.setIfInBounds_toArray, List.set_cons_zero, List.set_cons_succ])
            refine wpAnyH_ready (rs := [9]) (by kernel_rfl) (by simp) ?_
            refine AllReadyH.cons rfl (fun K hK => ?_) AllReadyH.nil
            have c2 := F2_CZ.out
            have f2 := F2_FZ.out.2
            go_simp
            refine hK.out _ _ (grownSet hHeld _ _) (fun hHeld => ?_)
            clear hK K
            (try simp only [Act.put])
            refine wpAnyH_done (by kernel_rfl) ?_ _
            obtain ⟨k2, c2, e1, -, -, hBk2, -, hset⟩ := F2_RO.out.cellSet (by rw [lsQ_length]) a (by rw [lsQ_length]; exact hlt) b (by rw [lsQ_row n M a b hlt, gen_length]; exact hlb)
            obtain rfl : k2 = kk := by
              have e2 := e1.symm.trans F2_CC.out
              simp only [Option.some.injEq, Value.slice.injEq, Addr.mk.injEq] at e2
              exact e2.1.1
            have hset2 := hset (M a b)
            rw [lsQ_step n M a b hlt, HZM.out] at hset2
            have S2 := Lib.hid hset2
            have RA6 := Lib.hid ((heap_setCell_other d2 ⟨k2, b, none⟩ (wo.heap.size) (.int .i64 z) NKA.out).trans F2_RA.out)
            have FA6 := Lib.hid (F2_FA.out.block (heap_setCell_other d2 ⟨k2, b, none⟩ gC (.int .i64 z) NKC.out) (by simpa using F2_FA.out.lt))
            have B6 := Lib.hid (belows F2_B.out (b := ⟨k2, b, none⟩) (Nat.le_trans LO.out hBk2) (.int .i64 z))
            have CC6 := Lib.hid (show (d2.setCell ⟨k2, b, none⟩ (.int .i64 z)).cell? ⟨gO, a, none⟩ = some (.slice (some ⟨w32.heap.size, 0, none⟩) n n) from by
              rw [keeps F2_CC.out NKO.out, HKK.out])
            clear hset hset2 e1
            go_wp2_with fail
            go_roundw
            case rel => exact ⟨b + 1, by omega, by go_num, RA6.out, FA6.out, S2.out, CC6.out, B6.out⟩
            case measure => simp [intOf]; omega
          · obtain rfl : b = n := by omega
            rw [lsQ_end] at RO1
            go_wp2_with fail
            go_roundw
            case rel => exact ⟨a + 1, by omega, by go_num, FA1.out, RO1.out, BR1.out⟩
            case measure => simp [intOf]; omega
      · obtain rfl : a = n := by omega
        rw [lsP_end] at RO
        go_wp2_with fail
        go_returns
        exact ⟨BR.out, Or.inl ⟨rfl, _, rfl, RO.out.mono LO.out⟩⟩
set_option maxHeartbeats 1000000 in
theorem iDisturbanceOf (v : Value) (m : List (List Int)) (w : World) (hv : IR w v m) (hlen : sz2 m ≤ 1048576) : Calls Try.prog 17 #[v] w (MakesRB w (diA m) (cdsOk m)) := by
  have hmf : ∀ (fn : Fn) (first cap : Array Value) (w : World), (Instr.makeFunc fn first cap).run Try.prog w = .ok (.func fn first cap) w := fun _ _ _ _ => rfl
  obtain ⟨a, cap, rfl⟩ := hv.slice
  have HSH := Lib.hid (fun (w1 : World) (hw : w1 = w.alloc (.cells #[.slice a m.length cap] 22)) => sharedM 45 #[.pointer (some ⟨w.heap.size, 0, none⟩)] (fun w => by simp [go_sem]) (kOf (cdsOk m)) _ (lasts_rows (diA m)) w1 (fun w2 hb => by
    subst hw
    exact disturbanceOf1_any _ m _ w2 (box_one hb) ((hv.below (belowa (Below.refl _ _) _)).below hb) hlen))
  have HN := Lib.hid (show kOf (cdsOk m) ≠ 0 → diA m = [] from fun h => by
    unfold diA
    cases hc : cdsOk m with
    | true => rw [hc] at h; exact absurd rfl h
    | false => rfl)
  obtain ⟨L, hL⟩ : ∃ L, L = diA m := ⟨_, rfl⟩
  rw [← hL] at HSH HN ⊢
  clear hv hL
  go_enter Try.func17, Try.ntmps17
  go_wp2_with fail
  refine (HSH.out _ rfl).mono ?_
  rintro e w1 ⟨hb, v, rfl, h⟩
  have HB := Lib.hid (joins (belowa (Below.refl _ _) _) hb)
  have HH := Lib.hid (show OwnR w1 w.heap.size v L from by
    rcases h with ⟨_, h⟩ | ⟨hk, rfl⟩
    · exact h.mono (by simp)
    · rw [HN.out hk]; exact OwnR.nil _ _)
  rw [kOf_zero]
  clear h hb
  go_wp2_with fail
  go_returns
  exact ⟨_, rfl, HH.out, HB.out⟩
end Go.Proofs.Ytapmehgdnofgnaa
