/- The program's require, codeFrom. The program's codesFrom. -/
import Derived.Test.YtfjhocmnafdnfaaDoor
import Derived.Test.YtfjhocmnafdnfaaSp
import Derived.Test.YtfjhocmnafdnfaaRowM
import Derived.Test.YtfjhocmnafdnfaaSCr
import Derived.Test.YtfjhocmnafdnfaaRg
namespace Go.Proofs.Ytfjhocmnafdnfaa
set_option maxRecDepth 100000
section
open Go.RowKit

/-- The call raises k; what was there stays. -/
def Raises (w : World) (k : Nat) (e : Ending) (w' : World) : Prop := e = .panicked [rfs k] ∧ Below w.heap.size w w'
theorem require_yes (w : World) : Calls Try.prog 179 #[.bool true] w (Pure w (.tuple #[])) := by
  go_enter Try.func179, Try.ntmps179
  go_wp2
  first | go_end0 | refine bodyPost_ret (results_none rfl _ _ _) rfl ?_
  exact ⟨rfl, rfl⟩
theorem require_no (w : World) : Calls Try.prog 179 #[.bool false] w (fun e w' => e = .panicked [rfs 1] ∧ w' = w) := by
  go_enter Try.func179, Try.ntmps179
  go_wp2
  exact ⟨rfl, rfl, rfl⟩

set_option maxHeartbeats 2000000 in
theorem codeFrom_yes (v : Value) (l : List Int) (w : World) (hv : IS w v l) (h : cdOk l = true) : Calls Try.prog 180 #[v] w (Ret w (.agg (phC l))) := by
  obtain ⟨hs, h1⟩ := cdOk_seq h
  have h32 := isSeq_len hs
  obtain ⟨pa, ca, rfl⟩ := hv.slice
  have HV := Lib.hid hv
  have HP := Lib.hid (fun w h => phasesOf_any (.slice pa l.length ca) l w h (by omega))
  rw [hs] at HP
  have SC := Lib.hid (phC_size l)
  have OC := Lib.hid (phC_one l)
  have IC := Lib.hid (show (Try.prog.info? 97).map (·.size) = some (phC l).size by rw [phC_size]; exact infoPh)
  have LC := Lib.hid (show (phC l)[32]? = some (.int .i64 l.length) from by
    have := phC_len l
    rwa [show sqz l = l by unfold sqz; rw [hs]; rfl] at this)
  have SZ := Lib.hid (phA_size z32 0 z32_length)
  obtain ⟨Z, hZ⟩ : ∃ Z, Z = phA z32 0 := ⟨_, rfl⟩
  have ZZ := Lib.hid zeroPh
  rw [← hZ] at SZ ZZ
  obtain ⟨C, hC⟩ : ∃ C, C = phC l := ⟨_, rfl⟩
  rw [← hC] at HP SC OC IC LC ⊢
  obtain ⟨N, hN⟩ : ∃ n, n = l.length := ⟨_, rfl⟩
  rw [← hN] at HP HV LC h1 h32 ⊢
  have h1i : (1 : Int) ≤ (N : Int) := by omega
  clear hZ hC hv hs h hN
  have B0 := Lib.hid (Below.refl w.heap.size w)
  go_enter Try.func180, Try.ntmps180
  go_wp2_with ((with_reducible refine at_op (d := some 2) (Op.alloc 97) ?_); refine wpList_alloc_row rfl 97 rfl Z ZZ.out ?_; intro w1 hr hb hz; have R1_r := Lib.hid hr; have B1 := Lib.hid (joins B0.out hb); have L1_r := Lib.hid (show w.heap.size ≤ w.heap.size from B0.out.size); clear hr hb hz)
  refine (HP.out _ (HV.out.below B1.out)).mono ?_
  rintro e w2 ⟨rfl, hb⟩
  have R2_r := Lib.hid (rowB R1_r.out hb)
  have B2 := Lib.hid (joins B1.out hb)
  clear hb
  go_wp2_with (first
    | ((with_reducible refine at_op (d := some 3) (Op.alloc 97) ?_); refine wpList_alloc_row rfl 97 rfl Z ZZ.out ?_; intro w3 hr hb hz; have N3_r_p := Lib.hid (Nat.ne_of_lt (row_lt R2_r.out)); have N3_p_r := Lib.hid (Ne.symm N3_r_p.out); have R3_r := Lib.hid (rowB R2_r.out hb); have R3_p := Lib.hid hr; have B3 := Lib.hid (joins B2.out hb); have L3_p := Lib.hid (show w.heap.size ≤ w2.heap.size from B2.out.size); clear hr hb hz)
    | ((with_reducible refine at_op (Op.store 97 (.tmp 3) (.tmp 8)) ?_); refine wpList_put_row rfl 97 (.tmp 3) (.tmp 8) rfl (w2.heap.size) C rfl rfl 97 Z R3_p.out 33 infoPh SC.out SZ.out OC.out w.heap.size w B3.out L3_p.out ?_; intro w4 hr hs hb; have R4_r := Lib.hid (hs.row R3_r.out N3_r_p.out); have R4_p := Lib.hid hr; have B4 := Lib.hid hb; have c32 := rowC hr LC.out; clear hr hs hb))
  refine (require_yes _).mono ?_
  rintro e w' ⟨rfl, rfl⟩
  go_wp2_with (first
    | ((with_reducible refine at_op (Op.load 97 (.tmp 3)) ?_); refine wpList_load_part rfl 97 (.tmp 3) rfl (w2.heap.size) 0 rfl C C 97 (0, 0) _ R4_p.out (Part.self _) Try.underlying97 rfl IC.out ?_)
    | ((with_reducible refine at_op (Op.store 97 (.tmp 2) (.tmp 17)) ?_); refine wpList_put_row rfl 97 (.tmp 2) (.tmp 17) rfl (w.heap.size) C rfl rfl 97 Z R4_r.out 33 infoPh SC.out SZ.out OC.out w.heap.size w B4.out L1_r.out ?_; intro w5 hr hs hb; have R5_p := Lib.hid (hs.row R4_p.out N3_p_r.out); have R5_r := Lib.hid hr; have B5 := Lib.hid hb; clear hr hs hb))
  refine bodyPost_ret (v := .agg C) ?_ rfl ⟨rfl, B5.out⟩
  exact results_cell_row Try.results180 _ _ (w.heap.size) 97 C (0, 0) _ rfl R5_r.out Try.underlying97 rfl IC.out

set_option maxHeartbeats 2000000 in
theorem codeFrom_no (v : Value) (l : List Int) (w : World) (hv : IS w v l) (hlen : l.length ≤ 1048576) (h : cdOk l = false) : Calls Try.prog 180 #[v] w (Raises w 1) := by
  obtain ⟨pa, ca, rfl⟩ := hv.slice
  have HV := Lib.hid hv
  have HP := Lib.hid (fun w h => phasesOf_any (.slice pa l.length ca) l w h hlen)
  have SC := Lib.hid (phC_size l)
  have OC := Lib.hid (phC_one l)
  have SZ := Lib.hid (phA_size z32 0 z32_length)
  obtain ⟨Z, hZ⟩ : ∃ Z, Z = phA z32 0 := ⟨_, rfl⟩
  have ZZ := Lib.hid zeroPh
  rw [← hZ] at SZ ZZ
  cases hs : isSeq l with
  | true =>
    have h0 : l.length = 0 := by
      unfold cdOk at h
      rw [hs, Bool.true_and, decide_eq_false_iff_not] at h
      omega
    have LC := Lib.hid (show (phC l)[32]? = some (.int .i64 0) from by
      have := phC_len l
      rw [show sqz l = l by unfold sqz; rw [hs]; rfl, h0] at this
      exact this)
    rw [hs] at HP
    obtain ⟨C, hC⟩ : ∃ C, C = phC l := ⟨_, rfl⟩
    rw [← hC] at HP SC OC LC
    obtain ⟨N, hN⟩ : ∃ n, n = l.length := ⟨_, rfl⟩
    rw [← hN] at HP HV ⊢
    clear hZ hC hv hs h hN h0 hlen
    have B0 := Lib.hid (Below.refl w.heap.size w)
    go_enter Try.func180, Try.ntmps180
    go_wp2_with ((with_reducible refine at_op (d := some 2) (Op.alloc 97) ?_); refine wpList_alloc_row rfl 97 rfl Z ZZ.out ?_; intro w1 hr hb hz; have R1_r := Lib.hid hr; have B1 := Lib.hid (joins B0.out hb); have L1_r := Lib.hid (show w.heap.size ≤ w.heap.size from B0.out.size); clear hr hb hz)
    refine (HP.out _ (HV.out.below B1.out)).mono ?_
    rintro e w2 ⟨rfl, hb⟩
    have R2_r := Lib.hid (rowB R1_r.out hb)
    have B2 := Lib.hid (joins B1.out hb)
    clear hb
    go_wp2_with (first
      | ((with_reducible refine at_op (d := some 3) (Op.alloc 97) ?_); refine wpList_alloc_row rfl 97 rfl Z ZZ.out ?_; intro w3 hr hb hz; have N3_r_p := Lib.hid (Nat.ne_of_lt (row_lt R2_r.out)); have N3_p_r := Lib.hid (Ne.symm N3_r_p.out); have R3_r := Lib.hid (rowB R2_r.out hb); have R3_p := Lib.hid hr; have B3 := Lib.hid (joins B2.out hb); have L3_p := Lib.hid (show w.heap.size ≤ w2.heap.size from B2.out.size); clear hr hb hz)
      | ((with_reducible refine at_op (Op.store 97 (.tmp 3) (.tmp 8)) ?_); refine wpList_put_row rfl 97 (.tmp 3) (.tmp 8) rfl (w2.heap.size) C rfl rfl 97 Z R3_p.out 33 infoPh SC.out SZ.out OC.out w.heap.size w B3.out L3_p.out ?_; intro w4 hr hs hb; have R4_r := Lib.hid (hs.row R3_r.out N3_r_p.out); have R4_p := Lib.hid hr; have B4 := Lib.hid hb; have c32 := rowC hr LC.out; clear hr hs hb))
    refine (require_no _).mono ?_
    rintro e w' ⟨rfl, rfl⟩
    exact ⟨rfl, rfl, B4.out⟩
  | false =>
    rw [hs] at HP
    obtain ⟨C, hC⟩ : ∃ C, C = phC l := ⟨_, rfl⟩
    rw [← hC] at HP SC OC
    obtain ⟨N, hN⟩ : ∃ n, n = l.length := ⟨_, rfl⟩
    rw [← hN] at HP HV ⊢
    clear hZ hC hv hs h hN hlen
    have B0 := Lib.hid (Below.refl w.heap.size w)
    go_enter Try.func180, Try.ntmps180
    go_wp2_with ((with_reducible refine at_op (d := some 2) (Op.alloc 97) ?_); refine wpList_alloc_row rfl 97 rfl Z ZZ.out ?_; intro w1 hr hb hz; have R1_r := Lib.hid hr; have B1 := Lib.hid (joins B0.out hb); have L1_r := Lib.hid (show w.heap.size ≤ w.heap.size from B0.out.size); clear hr hb hz)
    refine (HP.out _ (HV.out.below B1.out)).mono ?_
    rintro e w2 ⟨rfl, hb⟩
    have R2_r := Lib.hid (rowB R1_r.out hb)
    have B2 := Lib.hid (joins B1.out hb)
    clear hb
    go_wp2_with (first
      | ((with_reducible refine at_op (d := some 3) (Op.alloc 97) ?_); refine wpList_alloc_row rfl 97 rfl Z ZZ.out ?_; intro w3 hr hb hz; have N3_r_p := Lib.hid (Nat.ne_of_lt (row_lt R2_r.out)); have N3_p_r := Lib.hid (Ne.symm N3_r_p.out); have R3_r := Lib.hid (rowB R2_r.out hb); have R3_p := Lib.hid hr; have B3 := Lib.hid (joins B2.out hb); have L3_p := Lib.hid (show w.heap.size ≤ w2.heap.size from B2.out.size); clear hr hb hz)
      | ((with_reducible refine at_op (Op.store 97 (.tmp 3) (.tmp 8)) ?_); refine wpList_put_row rfl 97 (.tmp 3) (.tmp 8) rfl (w2.heap.size) C rfl rfl 97 Z R3_p.out 33 infoPh SC.out SZ.out OC.out w.heap.size w B3.out L3_p.out ?_; intro w4 hr hs hb; have R4_r := Lib.hid (hs.row R3_r.out N3_r_p.out); have R4_p := Lib.hid hr; have B4 := Lib.hid hb; clear hr hs hb))
    refine (require_no _).mono ?_
    rintro e w' ⟨rfl, rfl⟩
    exact ⟨rfl, rfl, B4.out⟩
end
section
open Go.RowKit

theorem infoPd : (Try.prog.info? 97).map (fun i => (i.zero, i.size, i.bytes)) = some (some (.agg (phA z32 0)), 33, 264) := by kernel_rfl
/-- What lies in a list of codes. -/
def cdD (m : List (List Int)) (x : Nat) : Array Value := phC (m.getD x [])
/-- The value is a list of the codes m, made above B. -/
def CodesAt (m : List (List Int)) (B : Nat) (v : Value) (w : World) : Prop := ∃ g, v = .slice (some ⟨g, 0, none⟩) m.length m.length ∧ B ≤ g ∧ AllAt w g 33 m.length (cdD m) m.length
theorem lasts_codes (m : List (List Int)) : Lasts (CodesAt m) := by
  refine ⟨fun h ⟨g, h1, h2, h3⟩ => ⟨g, h1, Nat.le_trans h h2, h3⟩, fun {B v w b u} h ⟨g, h1, h2, h3⟩ => ⟨g, h1, h2, ?_⟩⟩
  exact h3.block (heap_setCell_other w ⟨b, 0, none⟩ g u (fun e => by simp only at e; omega)) (by simpa using h3.lt)
theorem cdD_len {m : List (List Int)} (x : Nat) (h : isSeq (m.getD x []) = true) : (cdD m x)[32]? = some (.int .i64 ((m.getD x []).length : Int)) := by
  have := phC_len (m.getD x [])
  rwa [show sqz (m.getD x []) = m.getD x [] by unfold sqz; rw [h]; rfl] at this
theorem AllAt.cellOf {w : World} {g z K k : Nat} {D : Nat → Array Value} (h : AllAt w g z K D k) {x j : Nat} {v : Value} (hx : x < k) (hv : (D x)[j]? = some v) : w.cell? ⟨g, x * z + j, none⟩ = some v :=
  h.cells x hx j v (by simpa using hv)
set_option maxRecDepth 100000 in
set_option maxHeartbeats 4000000 in
theorem codesFrom_any (v : Value) (m : List (List Int)) (w : World) (hv : IR w v m) (hlen : sz2 m ≤ 1048576) : Calls Try.prog 103 #[v] w (Tries w (kOf (cdsOk m)) (CodesAt m)) := by
  obtain ⟨i0, hi, hz0, hz1, hz2⟩ := info_parts infoPd
  obtain ⟨a, cap, rfl⟩ := hv.slice
  have hm3 : m.length ≤ 1048576 := by unfold sz2 at hlen; omega
  have HV := Lib.hid hv
  have HTL := Lib.hid (fun i (hi : i < m.length) => show (m.getD i []).length ≤ 1048576 from by
    have := row_le_tot m i hi
    unfold sz2 at hlen; omega)
  by_cases hs : 1 ≤ m.length ∧ m.length ≤ 8
  case neg =>
    have hk : cdsOk m = false := cdsOk_size hs
    rw [hk, kOf_false]
    obtain ⟨n, hn⟩ : ∃ n, n = m.length := ⟨_, rfl⟩
    rw [← hn] at HV hs hm3 ⊢
    clear hv hlen hi hz0 hz1 hz2 hk HTL hn
    by_cases h1 : 1 ≤ n
    · have h1i : (1 : Int) ≤ (n : Int) := by omega
      have h8 : ¬ (n : Int) ≤ 8 := by omega
      clear hs h1
      go_enter Try.func103, Try.ntmps103
      go_wp2_with fail
      refine (require_no _).mono ?_
      rintro e w' ⟨rfl, rfl⟩
      exact ⟨rfl, Below.refl _ _, Or.inr ⟨by decide, rfl⟩⟩
    · obtain rfl : n = 0 := by omega
      clear hs h1
      go_enter Try.func103, Try.ntmps103
      go_wp2_with fail
      refine (require_no _).mono ?_
      rintro e w' ⟨rfl, rfl⟩
      exact ⟨rfl, Below.refl _ _, Or.inr ⟨by decide, rfl⟩⟩
  obtain ⟨hs1, hs8⟩ := hs
  have HYES := Lib.hid (fun h => cdsOk_yes (m := m) ⟨hs1, hs8⟩ h)
  have HNO := Lib.hid (fun i hi h => cdsOk_row (m := m) i hi h)
  obtain ⟨n, hn⟩ : ∃ n, n = m.length := ⟨_, rfl⟩
  have HNM := Lib.hid hn
  obtain ⟨q, hq⟩ : ∃ q, q = cdsOk m := ⟨_, rfl⟩
  rw [← hq] at HYES HNO ⊢
  rw [← hn] at HV HTL HYES HNO hs1 hs8 hm3
  rw [← hn]
  have HN0 := Lib.hid (show 0 < n by omega)
  have h1i : (1 : Int) ≤ (n : Int) := by omega
  have h8i : (n : Int) ≤ 8 := by omega
  have HI0 := Lib.hid hi
  have HZ00 := Lib.hid hz0
  have HZ10 := Lib.hid hz1
  have HZ20 := Lib.hid hz2
  have HSZ := Lib.hid (fun x => phC_size (m.getD x []))
  have HONE := Lib.hid (fun x => phC_one (m.getD x []))
  obtain ⟨DD, hDD⟩ : ∃ D, D = cdD m := ⟨_, rfl⟩
  have HDD := Lib.hid hDD
  have HSD := Lib.hid (show ∀ x, (DD x).size = 33 from fun x => by rw [hDD]; exact phC_size _)
  have HOD := Lib.hid (show ∀ x, (DD x).all (·.oneCell') = true from fun x => by rw [hDD]; exact phC_one _)
  have HEQ := Lib.hid (show ∀ x, phC (m.getD x []) = DD x from fun x => by rw [hDD]; rfl)
  have HEN := Lib.hid (show ∀ w' g, w.heap.size ≤ g → AllAt w' g 33 n DD n → CodesAt m w.heap.size (.slice (some ⟨g, 0, none⟩) n n) w' from fun w' g hg h => ⟨g, by rw [HNM.out], hg, by rw [← HNM.out, ← hDD]; exact h⟩)
  clear hv hlen hi hz0 hz1 hz2 hDD HSZ HONE hq hn
  go_enter Try.func103, Try.ntmps103
  go_wp2_with fail
  refine (require_yes _).mono ?_
  rintro e w' ⟨rfl, rfl⟩
  go_wp2_with (at_make; refine wpList_make_full _ rfl _ _ 81 rfl w.heap.size 97 i0 (.agg (phA z32 0)) 33 Try.underlying81 HI0.out HZ00.out HZ10.out _ _ _ _ n rfl rfl rfl rfl ?b2_1 ?b3_1 (Nat.le_refl _) ?_)
  case b2_1 => rw [HZ20.out]; omega
  case b3_1 => unfold maxLen; omega
  intro w1 hown0 hgrow0
  have B1 := Lib.hid ((Below.refl w.heap.size w).grown hgrow0 (Nat.le_refl _) (fun k h => by cases h))
  have FA := Lib.hid (AllAt.start (D := DD) hown0)
  clear hown0 hgrow0
  go_wp2_with fail
  go_loopw [20] (fun i wr => ∃ k : Nat, k ≤ n ∧ i = .int .i64 k ∧ AllAt wr w.heap.size 33 n DD k ∧ Below w.heap.size w wr ∧ ∀ j, j < k → cdRow (cdN m) (m.getD j []) = true) (fun i _ => n - (intOf i).toNat)
  case atStart => exact ⟨0, Nat.zero_le _, rfl, FA.out, B1.out, fun j hj => absurd hj (Nat.not_lt_zero _)⟩
  case round =>
    obtain ⟨k, hk, rfl, hall, hbel, hrows⟩ := hrel
    have FR := Lib.hid hall
    have BR := Lib.hid hbel
    have HRO := Lib.hid hrows
    clear hall hbel hrows
    by_cases hlt : k < n
    · have h0 : (0 : Int) ≤ (k : Int) := by omega
      have h1 : (k : Int) < (n : Int) := by omega
      obtain ⟨-, b, off, u, hau, hc, hu⟩ := (HV.out.below BR.out).at k (by rw [← HNM.out]; exact hlt)
      have hrl := HTL.out k hlt
      obtain ⟨r, hr⟩ : ∃ r, r = m.getD k [] := ⟨_, rfl⟩
      have HR := Lib.hid hr
      have HU := Lib.hid hu
      have hek := HEQ.out k
      rw [← hr] at hu hrl hek
      subst hau
      cases hco : cdOk r with
      | false =>
        have HC := Lib.hid (fun w' (h : IS w' u r) => codeFrom_no u r w' h hrl hco)
        have HQ := Lib.hid (HNO.out k hlt (by unfold cdRow; rw [← hr, hco]; rfl))
        have HU2 := Lib.hid hu
        clear hu hr hrl hek hco HU
        go_wp2_with fail
        refine (HC.out _ HU2.out).mono ?_
        rintro e w2 ⟨rfl, hb⟩
        refine ⟨rfl, joins BR.out hb, ?_⟩
        rw [HQ.out]
        exact Or.inr ⟨by decide, rfl⟩
      | true =>
        have HC := Lib.hid (fun w' (h : IS w' u r) => codeFrom_yes u r w' h hco)
        rw [hek] at HC
        have HU2 := Lib.hid hu
        have HCO := Lib.hid hco
        clear hu hr hrl hek hco HU
        go_wp2_with fail
        refine (HC.out _ HU2.out).mono ?_
        rintro e w5 ⟨rfl, hb⟩
        have F5 := Lib.hid (FR.out.below hb)
        have B5 := Lib.hid (joins BR.out hb)
        clear hb
        go_wp2_with ((with_reducible refine at_op (Op.store 97 (.tmp 29) (.tmp 28)) ?_); refine wpList_put_at rfl 97 (.tmp 29) (.tmp 28) rfl w.heap.size 33 n k DD rfl rfl F5.out hlt HSD.out infoPh (HOD.out k) w.heap.size w B5.out (Nat.le_refl _) ?_; intro w6 ha6 hs6 hb6)
        have FA6 := Lib.hid ha6
        have HB6 := Lib.hid hb6
        clear ha6 hs6 hb6
        have hse := (cdOk_seq HCO.out).1
        have hlk : (DD k)[32]? = some (.int .i64 (r.length : Int)) := by
          have := cdD_len (m := m) k (by rw [← HR.out]; exact hse)
          rw [HDD.out, HR.out]
          exact this
        have hl0 : (DD 0)[32]? = some (.int .i64 (cdN m : Int)) := by
          have : isSeq (m.getD 0 []) = true := by
            by_cases hk0 : k = 0
            · subst hk0; rw [← HR.out]; exact hse
            · have := HRO.out 0 (by omega)
              unfold cdRow at this
              rw [Bool.and_eq_true] at this
              exact (cdOk_seq this.1).1
          rw [HDD.out]
          exact cdD_len (m := m) 0 this
        have CK := Lib.hid (FA6.out.cellOf (x := k) (by omega) hlk)
        have C0 := Lib.hid (show w6.cell? ⟨w.heap.size, 32, none⟩ = some (.int .i64 (cdN m : Int)) from by
          have := FA6.out.cellOf (x := 0) (by omega) hl0
          simpa using this)
        have hRO : cdRow (cdN m) r = decide (r.length = cdN m) := by unfold cdRow; rw [HCO.out, Bool.true_and]
        obtain ⟨N, hN⟩ : ∃ N, N = cdN m := ⟨_, rfl⟩
        rw [← hN] at hRO C0
        obtain ⟨M, hM⟩ : ∃ N, N = r.length := ⟨_, rfl⟩
        rw [← hM] at hRO CK
        have HNN := Lib.hid hN
        clear hlk hl0 hse hM
        by_cases hMN : M = N
        · subst hMN
          have HNX := Lib.hid (show ∀ j, j < k + 1 → cdRow (cdN m) (m.getD j []) = true from fun j hj => by
            rcases Nat.lt_succ_iff_lt_or_eq.1 hj with h | h
            · exact HRO.out j h
            · rw [h, ← HR.out, ← HNN.out, hRO]; exact decide_eq_true rfl)
          clear hN hRO
          go_wp2_with fail
          refine wp_region_held_drew (S := (fun w' => World.grownBy w6 w' none)) (by kernel_rfl) (grownDrew (World.grownBy.refl _ _)) ?_
          obtain ⟨d1, hdw⟩ : ∃ w', w' = w6.drew := ⟨_, rfl⟩
          rw [← hdw]
          have hb : Below w6.heap.size w6 d1 := by rw [hdw]; exact belowN (Below.refl _ _) 1
          have F1_FA := Lib.hid (FA6.out.below hb)
          have F1_B := Lib.hid (joins HB6.out hb)
          clear hdw hb
          intro hHeld
          refine' wpAnyH_take (i := 0) (v := _) rfl (by kernel_rfl) (by kernel_rfl) (by kernel_rfl) (fun _ _ _ h => h) (Or.inl ⟨by rfl, ?hy1⟩) (by assumption) ?rest1
          case hy1 =>
            intro w h
            (try clear h)
            go_simp
            (try with_reducible rfl)
          (try simp only [Act.put, List.getElem_toArray, List.getElem_cons_zero, List.setIfInBounds_toArray, List.set_cons_zero, List.set_cons_succ])
          refine' wpAnyH_take (i := 1) (v := _) rfl (by kernel_rfl) (by kernel_rfl) (by kernel_rfl) (fun _ _ _ h => h) (Or.inl ⟨by rfl, ?hy2⟩) (by assumption) ?rest2
          case hy2 =>
            intro w h
            (try clear h)
            go_simp
            (try with_reducible rfl)
          (try simp only [Act.put, List.getElem_toArray, List.getElem_cons_zero, List.getElem_cons_succ, List.setIfInBounds_toArray, List.set_cons_zero, List.set_cons_succ])
          refine' wpAnyH_take (i := 2) (v := _) rfl (by kernel_rfl) (by kernel_rfl) (by kernel_rfl) (fun _ _ _ h => h) (Or.inl ⟨by rfl, ?hy3⟩) (by assumption) ?rest3
          case hy3 =>
            intro w h
            (try clear h)
            go_simp
            (try with_reducible rfl)
          (try simp only [Act.put, List.getElem_toArray, List.getElem_cons_zero, List.getElem_cons_succ, List.setIfInBounds_toArray, List.set_cons_zero, List.set_cons_succ])
          refine' wpAnyH_take (i := 3) (v := _) rfl (by kernel_rfl) (by kernel_rfl) (by kernel_rfl) (fun _ _ _ h => h) (Or.inl ⟨by rfl, ?hy4⟩) (by assumption) ?rest4
          case hy4 =>
            intro w h
            (try clear h)
            go_simp
            (try with_reducible rfl)
          (try simp only [Act.put, List.getElem_toArray, List.getElem_cons_zero, List.getElem_cons_succ, List.setIfInBounds_toArray, List.set_cons_zero, List.set_cons_succ])
          refine' wpAnyH_take (i := 4) (v := _) rfl (by kernel_rfl) (by kernel_rfl) (by kernel_rfl) (fun _ _ _ h => h) (Or.inl ⟨by rfl, ?hy5⟩) (by assumption) ?rest5
          case hy5 =>
            intro w h
            have c1 := cellR h CK.out (by simp)
            (try clear h)
            go_simp
            (try with_reducible rfl)
          (try simp only [Act.put, List.getElem_toArray, List.getElem_cons_zero, List.getElem_cons_succ, List.setIfInBounds_toArray, List.set_cons_zero, List.set_cons_succ])
          refine' wpAnyH_take (i := 5) (v := _) rfl (by kernel_rfl) (by kernel_rfl) (by kernel_rfl) (fun _ _ _ h => h) (Or.inl ⟨by rfl, ?hy6⟩) (by assumption) ?rest6
          case hy6 =>
            intro w h
            (try clear h)
            go_simp
            (try with_reducible rfl)
          (try simp only [Act.put, List.getElem_toArray, List.getElem_cons_zero, List.getElem_cons_succ, List.setIfInBounds_toArray, List.set_cons_zero, List.set_cons_succ])
          refine' wpAnyH_take (i := 6) (v := _) rfl (by kernel_rfl) (by kernel_rfl) (by kernel_rfl) (fun _ _ _ h => h) (Or.inl ⟨by rfl, ?hy7⟩) (by assumption) ?rest7
          case hy7 =>
            intro w h
            have f1 := HN0.out
            (try clear h)
            go_simp
            (try with_reducible rfl)
          (try simp only [Act.put, List.getElem_toArray, List.getElem_cons_zero, List.getElem_cons_succ, List.setIfInBounds_toArray, List.set_cons_zero, List.set_cons_succ])
          refine' wpAnyH_take (i := 7) (v := _) rfl (by kernel_rfl) (by kernel_rfl) (by kernel_rfl) (fun _ _ _ h => h) (Or.inl ⟨by rfl, ?hy8⟩) (by assumption) ?rest8
          case hy8 =>
            intro w h
            (try clear h)
            go_simp
            (try with_reducible rfl)
          (try simp only [Act.put, List.getElem_toArray, List.getElem_cons_zero, List.getElem_cons_succ, List.setIfInBounds_toArray, List.set_cons_zero, List.set_cons_succ])
          refine' wpAnyH_take (i := 8) (v := _) rfl (by kernel_rfl) (by kernel_rfl) (by kernel_rfl) (fun _ _ _ h => h) (Or.inl ⟨by rfl, ?hy9⟩) (by assumption) ?rest9
          case hy9 =>
            intro w h
            have c2 := cellR h C0.out (by simp)
            (try clear h)
            go_simp
            (try with_reducible rfl)
          (try simp only [Act.put, List.getElem_toArray, List.getElem_cons_zero, List.getElem_cons_succ, List.setIfInBounds_toArray, List.set_cons_zero, List.set_cons_succ])
          refine' wpAnyH_take (i := 9) (v := _) rfl (by kernel_rfl) (by kernel_rfl) (by kernel_rfl) (fun _ _ _ h => h) (Or.inl ⟨by rfl, ?hy10⟩) (by assumption) ?rest10
          case hy10 =>
            intro w h
            (try clear h)
            go_simp
            (try with_reducible rfl)
          (try simp only [Act.put, List.getElem_toArray, List.getElem_cons_zero, List.getElem_cons_succ, List.setIfInBounds_toArray, List.set_cons_zero, List.set_cons_succ])
          refine wpAnyH_ready (rs := [10]) (by kernel_rfl) (by simp) ?_
          refine AllReadyH.cons rfl (fun K hK => ?_) AllReadyH.nil
          go_simp
          refine (require_yes _).mono ?_
          rintro e w' ⟨rfl, rfl⟩
          refine hK.out _ _ hHeld (fun hHeld => ?_)
          clear hK K
          (try simp only [Act.put, List.getElem_toArray, List.getElem_cons_zero, List.getElem_cons_succ, List.setIfInBounds_toArray, List.set_cons_zero, List.set_cons_succ])
          refine wpAnyH_done (by kernel_rfl) ?_ _
          go_wp2_with fail
          go_roundw
          case rel => exact ⟨k + 1, by omega, by go_num, F1_FA.out, F1_B.out, HNX.out⟩
          case measure => simp [intOf]; omega
        · have HQ := Lib.hid (HNO.out k hlt (by rw [← HNN.out, ← HR.out, hRO]; exact decide_eq_false hMN))
          have hne : ¬ (M : Int) = (N : Int) := by omega
          clear hN hRO hMN
          go_wp2_with fail
          refine wp_region_held_drew (S := (fun w' => World.grownBy w6 w' none)) (by kernel_rfl) (grownDrew (World.grownBy.refl _ _)) ?_
          obtain ⟨d1, hdw⟩ : ∃ w', w' = w6.drew := ⟨_, rfl⟩
          rw [← hdw]
          have hb : Below w6.heap.size w6 d1 := by rw [hdw]; exact belowN (Below.refl _ _) 1
          have F1_FA := Lib.hid (FA6.out.below hb)
          have F1_B := Lib.hid (joins HB6.out hb)
          clear hdw hb
          intro hHeld
          refine' wpAnyH_take (i := 0) (v := _) rfl (by kernel_rfl) (by kernel_rfl) (by kernel_rfl) (fun _ _ _ h => h) (Or.inl ⟨by rfl, ?hy501⟩) (by assumption) ?rest501
          case hy501 =>
            intro w h
            (try clear h)
            go_simp
            (try with_reducible rfl)
          (try simp only [Act.put, List.getElem_toArray, List.getElem_cons_zero, List.setIfInBounds_toArray, List.set_cons_zero, List.set_cons_succ])
          refine' wpAnyH_take (i := 1) (v := _) rfl (by kernel_rfl) (by kernel_rfl) (by kernel_rfl) (fun _ _ _ h => h) (Or.inl ⟨by rfl, ?hy502⟩) (by assumption) ?rest502
          case hy502 =>
            intro w h
            (try clear h)
            go_simp
            (try with_reducible rfl)
          (try simp only [Act.put, List.getElem_toArray, List.getElem_cons_zero, List.getElem_cons_succ, List.setIfInBounds_toArray, List.set_cons_zero, List.set_cons_succ])
          refine' wpAnyH_take (i := 2) (v := _) rfl (by kernel_rfl) (by kernel_rfl) (by kernel_rfl) (fun _ _ _ h => h) (Or.inl ⟨by rfl, ?hy503⟩) (by assumption) ?rest503
          case hy503 =>
            intro w h
            (try clear h)
            go_simp
            (try with_reducible rfl)
          (try simp only [Act.put, List.getElem_toArray, List.getElem_cons_zero, List.getElem_cons_succ, List.setIfInBounds_toArray, List.set_cons_zero, List.set_cons_succ])
          refine' wpAnyH_take (i := 3) (v := _) rfl (by kernel_rfl) (by kernel_rfl) (by kernel_rfl) (fun _ _ _ h => h) (Or.inl ⟨by rfl, ?hy504⟩) (by assumption) ?rest504
          case hy504 =>
            intro w h
            (try clear h)
            go_simp
            (try with_reducible rfl)
          (try simp only [Act.put, List.getElem_toArray, List.getElem_cons_zero, List.getElem_cons_succ, List.setIfInBounds_toArray, List.set_cons_zero, List.set_cons_succ])
          refine' wpAnyH_take (i := 4) (v := _) rfl (by kernel_rfl) (by kernel_rfl) (by kernel_rfl) (fun _ _ _ h => h) (Or.inl ⟨by rfl, ?hy505⟩) (by assumption) ?rest505
          case hy505 =>
            intro w h
            have c1 := cellR h CK.out (by simp)
            (try clear h)
            go_simp
            (try with_reducible rfl)
          (try simp only [Act.put, List.getElem_toArray, List.getElem_cons_zero, List.getElem_cons_succ, List.setIfInBounds_toArray, List.set_cons_zero, List.set_cons_succ])
          refine' wpAnyH_take (i := 5) (v := _) rfl (by kernel_rfl) (by kernel_rfl) (by kernel_rfl) (fun _ _ _ h => h) (Or.inl ⟨by rfl, ?hy506⟩) (by assumption) ?rest506
          case hy506 =>
            intro w h
            (try clear h)
            go_simp
            (try with_reducible rfl)
          (try simp only [Act.put, List.getElem_toArray, List.getElem_cons_zero, List.getElem_cons_succ, List.setIfInBounds_toArray, List.set_cons_zero, List.set_cons_succ])
          refine' wpAnyH_take (i := 6) (v := _) rfl (by kernel_rfl) (by kernel_rfl) (by kernel_rfl) (fun _ _ _ h => h) (Or.inl ⟨by rfl, ?hy507⟩) (by assumption) ?rest507
          case hy507 =>
            intro w h
            have f1 := HN0.out
            (try clear h)
            go_simp
            (try with_reducible rfl)
          (try simp only [Act.put, List.getElem_toArray, List.getElem_cons_zero, List.getElem_cons_succ, List.setIfInBounds_toArray, List.set_cons_zero, List.set_cons_succ])
          refine' wpAnyH_take (i := 7) (v := _) rfl (by kernel_rfl) (by kernel_rfl) (by kernel_rfl) (fun _ _ _ h => h) (Or.inl ⟨by rfl, ?hy508⟩) (by assumption) ?rest508
          case hy508 =>
            intro w h
            (try clear h)
            go_simp
            (try with_reducible rfl)
          (try simp only [Act.put, List.getElem_toArray, List.getElem_cons_zero, List.getElem_cons_succ, List.setIfInBounds_toArray, List.set_cons_zero, List.set_cons_succ])
          refine' wpAnyH_take (i := 8) (v := _) rfl (by kernel_rfl) (by kernel_rfl) (by kernel_rfl) (fun _ _ _ h => h) (Or.inl ⟨by rfl, ?hy509⟩) (by assumption) ?rest509
          case hy509 =>
            intro w h
            have c2 := cellR h C0.out (by simp)
            (try clear h)
            go_simp
            (try with_reducible rfl)
          (try simp only [Act.put, List.getElem_toArray, List.getElem_cons_zero, List.getElem_cons_succ, List.setIfInBounds_toArray, List.set_cons_zero, List.set_cons_succ])
          refine' wpAnyH_take (i := 9) (v := _) rfl (by kernel_rfl) (by kernel_rfl) (by kernel_rfl) (fun _ _ _ h => h) (Or.inl ⟨by rfl, ?hy510⟩) (by assumption) ?rest510
          case hy510 =>
            intro w h
            (try clear h)
            go_simp
            (try with_reducible rfl)
          (try simp only [Act.put, List.getElem_toArray, List.getElem_cons_zero, List.getElem_cons_succ, List.setIfInBounds_toArray, List.set_cons_zero, List.set_cons_succ])
          refine wpAnyH_ready (rs := [10]) (by kernel_rfl) (by simp) ?_
          refine AllReadyH.cons rfl (fun K hK => ?_) AllReadyH.nil
          go_simp
          rw [show ((M : Int) == (N : Int)) = false from by simpa using hne]
          refine (require_no _).mono ?_
          rintro e w' ⟨rfl, rfl⟩
          refine ⟨rfl, F1_B.out, ?_⟩
          rw [HQ.out]
          exact Or.inr ⟨by decide, rfl⟩
    · obtain rfl : k = n := by omega
      have HQ := Lib.hid (HYES.out (fun i hi => HRO.out i hi))
      go_wp2_with fail
      go_returns
      exact ⟨BR.out, Or.inl ⟨by rw [HQ.out]; rfl, _, rfl, HEN.out _ _ (Nat.le_refl _) FR.out⟩⟩
end
end Go.Proofs.Ytfjhocmnafdnfaa
