/- The program's MoveOf. -/
import Derived.Test.YtgibdndckoapfabIPl
import Derived.Test.YtgibdndckoapfabISg
import Derived.Test.YtgibdndckoapfabISl
import Derived.Test.YtgibdndckoapfabMvM
namespace Go.Proofs.Ytgibdndckoapfab
set_option maxRecDepth 100000
open Go.RowKit

theorem small_int {b : Nat} {x : Int} (h : FK .f32 b x) (hx : -33554432 ≤ x ∧ x ≤ 33554432) : floatToIntVal .f32 b .i64 = some x := FN_toInt h (by omega)
set_option maxRecDepth 100000 in
set_option maxHeartbeats 2000000 in
theorem imoveOf (v : Value) (l : List (Int × Int)) (b : Int) (w : World) (hv : IG w v l) : Calls Try.prog 21 #[v, .int .i64 b] w (MakesGB w (mvA l b) (mvOk l b)) := by
  obtain ⟨i0, hi, hz0, hz1, hz2⟩ := info_parts infoC
  have HS := Lib.hid (signalOf_any 3 (tfSz l.length) v l (fun w => by rw [← tfZ_nat]; exact fits_conj _ w) (fun h => by have := tfSz_cases h; omega) w hv)
  obtain ⟨a, cap, hvs⟩ := hv.slice
  cases hok : tfOk l with
  | false =>
    rw [show (tfSz l.length && goodL l) = false from hok] at HS
    have e1 : mvOk l b = false := by unfold mvOk; rw [hok]; rfl
    have e2 : mvA l b = [] := by unfold mvA; rw [e1]; rfl
    rw [e1, e2]
    clear e1 e2 hok hvs hv
    go_enter Try.func21, Try.ntmps21
    go_wp2_with fail
    refine (HS.out).mono ?_
    rintro e w1 ⟨hb, ⟨h, _⟩ | ⟨_, rfl⟩⟩
    · cases h
    · have HB := Lib.hid hb
      clear hb
      go_wp2_with fail
      go_returns
      exact ⟨_, rfl, OwnG.nil _ _, HB.out⟩
  | true =>
    have hlen := tfOk_len hok
    rw [show (tfSz l.length && goodL l) = true from hok] at HS
    have HLT := Lib.hid (fun x y => adP_lt (tfOk_sz hok) x y)
    have HGD := Lib.hid (fbC_ok (gre l) (gim l) l.length (fun i hi => goodL_at (tfOk_good hok) i hi))
    have HGI := Lib.hid (fun i hi => good_in (goodL_at (tfOk_good hok) i hi))
    obtain ⟨n, hn⟩ : ∃ n, n = l.length := ⟨_, rfl⟩
    have HI := Lib.hid (isPlace_any b (n : Int))
    subst hvs
    by_cases hin : 0 ≤ b ∧ b < (n : Int)
    · have e1 : mvOk l b = true := by unfold mvOk; rw [hok, ← hn]; simp [hin]
      have e2 : mvA l b = mvL l b := by unfold mvA; rw [e1]; rfl
      have e3 := mvL_good l b e1
      obtain ⟨m, rfl⟩ : ∃ m : Nat, b = m := ⟨b.toNat, by omega⟩
      have hmn : m < n := by omega
      have e4 : mvL l m = genG n (fun x => gre l (adP x m)) (fun x => gim l (adP x m)) := by unfold mvL; rw [hn]; rfl
      rw [decide_eq_true hin] at HI
      rw [e4] at e3
      rw [e1, e2, e4, ← hn]
      rw [← hn] at hlen HLT HS HGD HGI
      obtain ⟨D, hD⟩ : ∃ D, D = fbC (gre l) (gim l) := ⟨_, rfl⟩
      rw [← hD] at HS HGD
      obtain ⟨E, hE⟩ : ∃ E : Nat → Nat × Nat, E = fun x => D (adP x m) := ⟨_, rfl⟩
      obtain ⟨X, hX⟩ : ∃ X, X = fun x => gre l (adP x m) := ⟨_, rfl⟩
      obtain ⟨Y, hY⟩ : ∃ X, X = fun x => gim l (adP x m) := ⟨_, rfl⟩
      rw [← hX, ← hY] at e3 ⊢
      have HLI := Lib.hid (fun (g : Nat) (w' : World) (hr : RowC w' w.heap.size g n E) => list_any g n w.heap.size E X Y (fun i hi => by
        have h1 := HGD.out _ (HLT.out i m hi hmn)
        have h2 := HGI.out _ (HLT.out i m hi hmn)
        rw [hE, hX, hY]
        show floatToIntVal .f32 (D (adP i m)).1 .i64 = some (gre l (adP i m)) ∧ floatToIntVal .f32 (D (adP i m)).2 .i64 = some (gim l (adP i m))
        exact ⟨small_int h1.1 (by omega), small_int h1.2 (by omega)⟩) hlen.1 (by omega) w' hr)
      rw [e3, if_pos rfl] at HLI
      have HE := Lib.hid (show ∀ x, E x = D (adP x m) from fun x => by rw [hE])
      obtain ⟨hl1, hl2⟩ := hlen
      clear hn hok e1 e2 e3 e4 hX hY hin hv hD hE
      go_enter Try.func21, Try.ntmps21
      go_wp2_with fail
      refine (HS.out).mono ?_
      rintro e w1 ⟨hb, ⟨_, g, rfl, hr⟩ | ⟨h, _⟩⟩
      case inr => cases h
      have HB1 := Lib.hid hb
      have HR1 := Lib.hid hr
      clear hb hr
      go_wp2_with fail
      refine (HI.out _).mono ?_
      rintro e w2 ⟨rfl, rfl⟩
      go_wp2_with (at_make; refine wpList_make_full _ rfl _ _ 57 rfl w1.heap.size 69 i0 (.complex .f32 0 0) 1 Try.underlying57 hi hz0 hz1 _ _ _ _ n rfl rfl rfl rfl ?b2 ?b3 (Nat.le_refl _) ?_)
      case b2 => rw [hz2]; omega
      case b3 => unfold maxLen; omega
      intro w0 hown0 hgrow0
      have hrow0 : RowC w0 w1.heap.size w1.heap.size n (upC 0 E) := by
        unfold RowC
        rw [upC_zero, ← cx_zeros]
        simpa using hown0
      have hb0 : Below w1.heap.size w1 w0 := (Below.refl _ _).grown hgrow0 (Nat.le_refl _) (fun k h => by cases h)
      have HB0 := Lib.hid (joins HB1.out hb0)
      have HQ0 := Lib.hid (HR1.out.below hb0)
      have HR0 := Lib.hid hrow0
      have HLE := Lib.hid HB1.out.size
      have HNE := Lib.hid (show g ≠ w1.heap.size from Nat.ne_of_lt HR1.out.lt.2)
      clear hown0 hgrow0 hrow0 hb0
      go_wp2_with fail
      go_loopw [29] (fun i wr => ∃ k : Nat, k ≤ n ∧ i = .int .i64 k ∧ RowC wr w1.heap.size w1.heap.size n (upC k E) ∧ RowC wr w.heap.size g n D ∧ Below w.heap.size w wr) (fun i _ => n - (intOf i).toNat)
      case atStart => exact ⟨0, Nat.zero_le _, rfl, HR0.out, HQ0.out, HB0.out⟩
      case round =>
        obtain ⟨k, hk, rfl, hr, hq, hbel⟩ := hrel
        have HB := Lib.hid hbel
        by_cases hlt : k < n
        · have h0 : (0 : Int) ≤ (k : Int) := by omega
          have h1 : (k : Int) < (n : Int) := by omega
          have HA := Lib.hid (addedPlaces_any k m (by omega) (by omega))
          have ha := HLT.out k m hlt hmn
          have he := HE.out k
          have hsg := (World.ownsRow.stored hr k (.complex .f32 (E k).1 (E k).2)).2
          have hss := hr.set k (E k)
          rw [upC_set] at hss
          have hq2 := hq.grown hsg HNE.out
          have c1 := hq.cell _ ha
          have c2 := hr.cell k hlt
          rw [show upC k E k = (0, 0) from if_neg (Nat.lt_irrefl _)] at c2
          have f2 := World.ownsRow.frozenAt hr k
          rw [← he] at c1
          obtain ⟨p, hp⟩ : ∃ p, p = adP k m := ⟨_, rfl⟩
          obtain ⟨z1, hz1'⟩ : ∃ z, z = (E k).1 := ⟨_, rfl⟩
          obtain ⟨z2, hz2'⟩ : ∃ z, z = (E k).2 := ⟨_, rfl⟩
          rw [← hp] at HA ha c1
          rw [← hz1', ← hz2'] at c1 hss hq2
          have HSS := Lib.hid hss
          have HQ2 := Lib.hid hq2
          have hp0 : (0 : Int) ≤ (p : Int) := by omega
          have hp1 : (p : Int) < (n : Int) := by omega
          have hst := @store_complex Try.prog
          clear hp ha he hsg hss hq2 hz1' hz2' hr hq hbel
          go_wp2_with fail
          refine (HA.out _).mono ?_
          rintro e w3 ⟨rfl, rfl⟩
          go_wp2_with fail
          go_roundw
          case rel => exact ⟨k + 1, by omega, by go_num, HSS.out, HQ2.out, belows HB.out HLE.out _⟩
          case measure => simp [intOf]; omega
        · obtain rfl : k = n := by omega
          have hr2 : RowC wr w.heap.size w1.heap.size k E := by
            have h := hr.mono HLE.out
            unfold RowC at h ⊢
            rw [upC_all] at h
            exact h
          have HL := Lib.hid (HLI.out _ _ hr2)
          clear hr hq hbel hr2
          go_wp2_with fail
          refine (HL.out).mono ?_
          rintro e w4 ⟨vo, rfl, ho, hb⟩
          have HO := Lib.hid (ho.mono HB.out.size)
          have HB4 := Lib.hid (joins HB.out hb)
          clear ho hb
          go_wp2_with fail
          go_returns
          exact ⟨_, rfl, HO.out, HB4.out⟩
    · have e1 : mvOk l b = false := by unfold mvOk; rw [← hn, decide_eq_false hin, Bool.and_false]
      have e2 : mvA l b = [] := by unfold mvA; rw [e1]; rfl
      rw [e1, e2, ← hn]
      rw [← hn] at hlen HS
      rw [decide_eq_false hin] at HI
      obtain ⟨hl1, hl2⟩ := hlen
      clear hn hok e1 e2 hin hv
      go_enter Try.func21, Try.ntmps21
      go_wp2_with fail
      refine (HS.out).mono ?_
      rintro e w1 ⟨hb, ⟨_, g, rfl, hr⟩ | ⟨h, _⟩⟩
      case inr => cases h
      have HB1 := Lib.hid hb
      clear hb hr
      go_wp2_with fail
      refine (HI.out _).mono ?_
      rintro e w2 ⟨rfl, rfl⟩
      go_wp2_with fail
      go_returns
      exact ⟨_, rfl, OwnG.nil _ _, HB1.out⟩
end Go.Proofs.Ytgibdndckoapfab
