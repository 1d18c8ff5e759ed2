/- The model's NormalMatrix. -/
import Derived.Test.YtbppbkoppbnodaaSMaT
import Derived.Test.YtbppbkoppbnodaaMaN
import Derived.Deep.RegionHeld3
namespace Go.Proofs.Ytbppbkoppbnodaa
set_option maxRecDepth 100000
open Go.RowKit

set_option maxRecDepth 100000 in
set_option maxHeartbeats 4000000 in
theorem snormalMatrix (v : Value) (m : List (List Int)) (w : World) (hv : IR w v m) : Calls Try.prog 30 #[v] w (MakesRB w (noA m) (maOk m)) := by
  obtain ⟨a, cap, rfl⟩ := hv.slice
  have HG := Lib.hid (haGood_any _ m w hv)
  have HV := Lib.hid hv
  unfold noA
  cases hm : maOk m with
  | false =>
    rw [hm] at HG
    rw [if_neg (by simp)]
    clear hv hm
    go_enter Try.func30, Try.ntmps30
    go_wp2_with fail
    refine (HG.out).mono ?_
    rintro e w1 ⟨rfl, hb1⟩
    go_wp2_with fail
    go_returns
    exact ⟨_, rfl, OwnR.nil _ _, hb1⟩
  | true =>
    rw [hm] at HG
    rw [if_pos rfl]
    have hok1 := maOk_ov hm
    have HOV := Lib.hid (fun w' (h : IR w' (.slice a m.length cap) m) => haOver_any _ m w' h (maOk_sq hm) (maOk_le hm))
    have hok2 := maOk_nm hok1
    have HOV2 := Lib.hid (fun w' u (h : IR w' u (nmL (ovL m))) => haOver_any u (nmL (ovL m)) w' h (maOk_sq hok2) (maOk_le hok2))
    have hok3 := maOk_ov hok2
    unfold noL
    obtain ⟨A, hA⟩ : ∃ A, A = ovL m := ⟨_, rfl⟩
    rw [← hA] at HOV HOV2 hok1 hok2 hok3 ⊢
    obtain ⟨C, hC⟩ : ∃ C, C = ovL (nmL A) := ⟨_, rfl⟩
    rw [← hC] at HOV2 hok3 ⊢
    have hA8 := (maOk_parts hok1).1
    have hC8 := (maOk_parts hok3).1
    have HA := Lib.hid hok1
    have HC := Lib.hid hok3
    clear hv hm hok1 hok2 hok3 hA hC
    go_enter Try.func30, Try.ntmps30
    go_wp2_with fail
    refine (HG.out).mono ?_
    rintro e w1 ⟨rfl, hb1⟩
    have HB1 := Lib.hid hb1
    clear hb1
    go_wp2_with fail
    refine (HOV.out _ (HV.out.below HB1.out)).mono ?_
    rintro e w2 ⟨v2, rfl, ho2, hb2⟩
    have HB2 := Lib.hid (joins HB1.out hb2)
    obtain ⟨g, cap2, rfl, hg1, hg2⟩ := ho2.shape (by omega)
    have hgw : w.heap.size ≤ g := by have := HB1.out.size; omega
    have HO2 := Lib.hid (ho2.mono HB1.out.size)
    clear ho2 hb2
    go_wp2_with fail
    go_loopw [14] (fun x wr => ∃ j : Nat, j ≤ A.length ∧ x = .int .i64 j ∧ OwnR wr w.heap.size (.slice (some ⟨g, 0, none⟩) A.length cap2) (nmP A j) ∧ Below w.heap.size w wr) (fun x _ => A.length - (intOf x).toNat)
    case atStart => exact ⟨0, Nat.zero_le _, rfl, by rw [nmP_zero]; exact HO2.out, HB2.out⟩
    case round =>
      obtain ⟨j, hj, rfl, hown, hbel⟩ := hrel
      clear HO2
      have HB := Lib.hid hbel
      have HO := Lib.hid hown
      clear hown hbel
      by_cases hlt : j < A.length
      · have h0 : (0 : Int) ≤ (j : Int) := by omega
        have h1 : (j : Int) < (A.length : Int) := by omega
        have hjn : j < (nmP A j).length := by rw [nmP_length]; exact hlt
        obtain ⟨u, c1, f1, hu⟩ := HO.out.cellAt (nmP_length A j).symm j hjn
        rw [nmP_at A j hlt] at hu
        have hus := maOk_seq HA.out j hlt
        have hul := maOk_sq HA.out j hlt
        have hxa := maOk_ph HA.out j 0 hlt (by omega)
        have hset := nmP_set A j hlt
        have hrow : nmR A j = turnG (A.getD j []) (-(atM A j 0)) := rfl
        have hat : atM A j 0 = (A.getD j []).getD 0 0 := rfl
        obtain ⟨l, hl⟩ : ∃ l, l = A.getD j [] := ⟨_, rfl⟩
        rw [← hl] at hu hus hul hrow hat
        rcases id hu with ⟨he, _⟩ | ⟨_, b2, off2, cap3, hue, _, hc2⟩
        · rw [he] at hul; simp at hul; omega
        subst hue
        have c2 := hc2 0 (by omega)
        rw [Nat.add_zero, ← hat] at c2
        obtain ⟨x, hx⟩ : ∃ x, x = atM A j 0 := ⟨_, rfl⟩
        rw [← hx] at c2 hxa hrow
        obtain ⟨hx1, hx2⟩ := hxa
        obtain ⟨r, hr⟩ : ∃ r, r = nmR A j := ⟨_, rfl⟩
        rw [← hr] at hrow hset
        have HT := Lib.hid (show ∀ w', IS w' (.slice (some ⟨b2, off2, none⟩) l.length cap3) l → Calls Try.prog 59 #[.slice (some ⟨b2, off2, none⟩) l.length cap3, .int .i64 (-x)] w' (Makes w' r) from fun w' h => by rw [hrow]; exact phTurn_any _ l (-x) w' h hus (by omega) (by omega))
        have HSET := Lib.hid hset
        have hneg : IntKind.i64.wrap (-x) = -x := IntWalk.i64_in _ (by omega)
        have hl0 : (0 : Int) < (l.length : Int) := by omega
        have hud := hu.below (belowN (Below.refl _ _) 1)
        have hsz : wr.drew.heap.size = wr.heap.size := rfl
        clear hc2 hx hr hl hrow hat hset hus hul
        go_wp2_with fail
        go_region_with (go_at_call 59; refine (HT.out _ (by assumption)).mono ?_; rintro e w' ⟨v', rfl, hor, hb⟩; obtain ⟨ra, rc, hre⟩ := hor.is.sl; subst hre; have hb' := (belowN (Below.refl wr.heap.size wr) 1).trans hb; have hown' := HO.out.below hb'; obtain ⟨old, c5, f5, hio⟩ := hown'.cellAt (nmP_length A j).symm j hjn; obtain ⟨oa, oc, hoe⟩ := hio.sl; subst hoe)
        all_goals
          have hO' := OwnR.stored HO.out (nmP_length A j).symm hb' HB.out.size hor j hjn
          rw [HSET.out] at hO'
          have HO' := Lib.hid hO'
          have HBN := Lib.hid ((joins HB.out hb').setCell (p := ⟨g, j, none⟩) hgw (.slice ra r.length rc))
          clear hO' hb' hor hown' hb
          go_wp2_with fail
          go_roundw
          case rel => exact ⟨j + 1, by omega, by go_num, HO'.out, HBN.out⟩
          case measure => simp [intOf]; omega
      · have he : j = A.length := by omega
        subst he
        rw [nmP_full] at HO
        have HI := Lib.hid HO.out.is
        go_wp2_with fail
        refine (HOV2.out _ _ HI.out).mono ?_
        rintro e w3 ⟨v3, rfl, ho3, hb3⟩
        have HB3 := Lib.hid (joins HB.out hb3)
        obtain ⟨g3, cap3, rfl, hg3, hg4⟩ := ho3.shape (by omega)
        have hgw3 : w.heap.size ≤ g3 := by have := HB.out.size; omega
        have HO3 := Lib.hid (ho3.mono HB.out.size)
        clear ho3 hb3 HO HI HB
        go_wp2_with fail
        go_loopw [37] (fun x wr => ∃ j : Nat, j ≤ C.length ∧ x = .int .i64 j ∧ OwnR wr w.heap.size (.slice (some ⟨g3, 0, none⟩) C.length cap3) (nmP C j) ∧ Below w.heap.size w wr) (fun x _ => C.length - (intOf x).toNat)
        case atStart => exact ⟨0, Nat.zero_le _, rfl, by rw [nmP_zero]; exact HO3.out, HB3.out⟩
        case round =>
          obtain ⟨j, hj, rfl, hown, hbel⟩ := hrel
          clear HO3
          have HB := Lib.hid hbel
          have HO := Lib.hid hown
          clear hown hbel
          by_cases hlt : j < C.length
          · have h0 : (0 : Int) ≤ (j : Int) := by omega
            have h1 : (j : Int) < (C.length : Int) := by omega
            have hjn : j < (nmP C j).length := by rw [nmP_length]; exact hlt
            obtain ⟨u, c1, f1, hu⟩ := HO.out.cellAt (nmP_length C j).symm j hjn
            rw [nmP_at C j hlt] at hu
            have hus := maOk_seq HC.out j hlt
            have hul := maOk_sq HC.out j hlt
            have hxa := maOk_ph HC.out j 0 hlt (by omega)
            have hset := nmP_set C j hlt
            have hrow : nmR C j = turnG (C.getD j []) (-(atM C j 0)) := rfl
            have hat : atM C j 0 = (C.getD j []).getD 0 0 := rfl
            obtain ⟨l, hl⟩ : ∃ l, l = C.getD j [] := ⟨_, rfl⟩
            rw [← hl] at hu hus hul hrow hat
            rcases id hu with ⟨he, _⟩ | ⟨_, b2, off2, cap4, hue, _, hc2⟩
            · rw [he] at hul; simp at hul; omega
            subst hue
            have c2 := hc2 0 (by omega)
            rw [Nat.add_zero, ← hat] at c2
            obtain ⟨x, hx⟩ : ∃ x, x = atM C j 0 := ⟨_, rfl⟩
            rw [← hx] at c2 hxa hrow
            obtain ⟨hx1, hx2⟩ := hxa
            obtain ⟨r, hr⟩ : ∃ r, r = nmR C j := ⟨_, rfl⟩
            rw [← hr] at hrow hset
            have HT := Lib.hid (show ∀ w', IS w' (.slice (some ⟨b2, off2, none⟩) l.length cap4) l → Calls Try.prog 59 #[.slice (some ⟨b2, off2, none⟩) l.length cap4, .int .i64 (-x)] w' (Makes w' r) from fun w' h => by rw [hrow]; exact phTurn_any _ l (-x) w' h hus (by omega) (by omega))
            have HSET := Lib.hid hset
            have hneg : IntKind.i64.wrap (-x) = -x := IntWalk.i64_in _ (by omega)
            have hl0 : (0 : Int) < (l.length : Int) := by omega
            have hud := hu.below (belowN (Below.refl _ _) 1)
            have hsz : wr.drew.heap.size = wr.heap.size := rfl
            clear hc2 hx hr hl hrow hat hset hus hul
            go_wp2_with fail
            go_region_with (go_at_call 59; refine (HT.out _ (by assumption)).mono ?_; rintro e w' ⟨v', rfl, hor, hb⟩; obtain ⟨ra, rc, hre⟩ := hor.is.sl; subst hre; have hb' := (belowN (Below.refl wr.heap.size wr) 1).trans hb; have hown' := HO.out.below hb'; obtain ⟨old, c5, f5, hio⟩ := hown'.cellAt (nmP_length C j).symm j hjn; obtain ⟨oa, oc, hoe⟩ := hio.sl; subst hoe)
            all_goals
              have hO' := OwnR.stored HO.out (nmP_length C j).symm hb' HB.out.size hor j hjn
              rw [HSET.out] at hO'
              have HO' := Lib.hid hO'
              have HBN := Lib.hid ((joins HB.out hb').setCell (p := ⟨g3, j, none⟩) hgw3 (.slice ra r.length rc))
              clear hO' hb' hor hown' hb
              go_wp2_with fail
              go_roundw
              case rel => exact ⟨j + 1, by omega, by go_num, HO'.out, HBN.out⟩
              case measure => simp [intOf]; omega
          · have he : j = C.length := by omega
            subst he
            rw [nmP_full] at HO
            go_wp2_with fail
            go_returns
            exact ⟨_, rfl, HO.out, HB.out⟩
end Go.Proofs.Ytbppbkoppbnodaa
