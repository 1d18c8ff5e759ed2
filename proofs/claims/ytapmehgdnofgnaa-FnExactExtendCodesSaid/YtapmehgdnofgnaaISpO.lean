/- The program's orthogonal, AreOrthogonal. -/
import Derived.Test.YtapmehgdnofgnaaSp
import Derived.Test.YtapmehgdnofgnaaIMch
import Derived.Test.YtapmehgdnofgnaaISpC
namespace Go.Proofs.Ytapmehgdnofgnaa
set_option maxRecDepth 100000
open Go.RowKit

/-- The call hands v back, or raises 2. -/
def Keeps (w : World) (ok : Bool) (v : Value) (e : Ending) (w' : World) : Prop := Below w.heap.size w w' ∧ ((ok = true ∧ e = .returned v) ∨ (ok = false ∧ e = .panicked [rfs 2]))
set_option maxRecDepth 100000 in
set_option maxHeartbeats 4000000 in
theorem orthogonal_any (g : Nat) (m : List (List Int)) (N : Nat) (w : World) (hall : AllAt w g 33 m.length (cdD m) m.length) (hok : AllN m N) (hlen : m.length ≤ 8) :
    Calls Try.prog 41 #[.slice (some ⟨g, 0, none⟩) m.length m.length] w (Keeps w (orB m) (.slice (some ⟨g, 0, none⟩) m.length m.length)) := by
  have HSU := Lib.hid (fun k => oxUp_succ m k)
  have HSR := Lib.hid (fun i k => oxRow_succ m i k)
  have HNO := Lib.hid (fun i j (hi : i < m.length) (hj : j < i) h => orB_no hi hj h)
  have HEN := Lib.hid (show oxUp m m.length = true → orB m = true from fun h => h)
  have HOX := Lib.hid (fun i j => show oxB m i j = decide (dtN (m.getD i []) (m.getD j []) = 0) from rfl)
  have HDT := Lib.hid (fun i j (hi : i < m.length) (hj : j < m.length) (w1 : World) => show Calls Try.prog 46 #[.agg (cdD m i), .agg (cdD m j)] w1 (Ret w1 (.int .i64 (dtN (m.getD i []) (m.getD j [])))) from disturbance_any (m.getD i []) (m.getD j []) (hok i hi).1 (hok j hj).1 (by rw [(hok i hi).2, (hok j hj).2]) w1)
  have HSZ := Lib.hid (show ∀ x, (cdD m x).size = 33 from fun x => phC_size _)
  have HONE := Lib.hid (show ∀ x, (cdD m x).all (·.oneCell') = true from fun x => phC_one _)
  have HIN := Lib.hid (show ∀ x, (Try.prog.info? 61).map (·.size) = some (cdD m x).size from fun x => infoPhC8 _)
  have SZZ := Lib.hid (phA_size z32 0 z32_length)
  have ZZ := Lib.hid zeroPh
  obtain ⟨Z, hZ⟩ : ∃ Z, Z = phA z32 0 := ⟨_, rfl⟩
  rw [← hZ] at SZZ ZZ
  obtain ⟨DD, hDD⟩ : ∃ D, D = cdD m := ⟨_, rfl⟩
  rw [← hDD] at HDT HSZ HONE HIN hall
  obtain ⟨n, hn⟩ : ∃ n, n = m.length := ⟨_, rfl⟩
  rw [← hn] at hall HNO HEN HDT hlen ⊢
  obtain ⟨R, hR⟩ : ∃ R, R = orB m := ⟨_, rfl⟩
  rw [← hR] at HNO HEN ⊢
  have HALL := Lib.hid hall
  clear hok hn hR hZ hDD hall
  go_enter Try.func41, Try.ntmps41
  go_wp2_with fail
  go_loopw [9] (fun i wr => ∃ k : Nat, k ≤ n ∧ i = .int .i64 k ∧ oxUp m k = true ∧ Below w.heap.size w wr) (fun i _ => n - (intOf i).toNat)
  case atStart => exact ⟨0, Nat.zero_le _, rfl, rfl, Below.refl _ _⟩
  case round =>
    obtain ⟨k, hk, rfl, hup, hbel⟩ := hrel
    have HUP := Lib.hid hup
    have HB := Lib.hid hbel
    clear hup hbel
    obtain ⟨wo, hwo⟩ : ∃ w', w' = wr := ⟨_, rfl⟩
    rw [← hwo] at HB ⊢
    clear hwo
    by_cases hlt : k < n
    · have h0 : (0 : Int) ≤ (k : Int) := by omega
      have h1 : (k : Int) < (n : Int) := by omega
      have FX := Lib.hid (HALL.out.below HB.out)
      have hkn : k ≤ n := hk
      go_wp2_with (first
        | ((with_reducible refine at_op (Op.load 61 (.tmp 12)) ?_); refine wpList_load_at rfl 61 (.tmp 12) rfl g 33 n n k DD rfl FX.out hlt (HSZ.out k) _ Try.underlying61 rfl infoPh ?_)
        | ((with_reducible refine at_op (d := some 4) (Op.alloc 61) ?_); refine wpList_alloc_row rfl 61 rfl Z ZZ.out ?_; intro w31 hr hb hz; have R31_a := Lib.hid hr; have L31_a := Lib.hid (show wo.heap.size ≤ wo.heap.size from Nat.le_refl _); have D31 := Lib.hid (hb); clear hr hb hz)
        | ((with_reducible refine at_op (Op.store 61 (.tmp 4) (.tmp 13)) ?_); refine wpList_put_row rfl 61 (.tmp 4) (.tmp 13) rfl (wo.heap.size) (DD k) rfl rfl 61 Z R31_a.out 33 infoPh (HSZ.out k) SZZ.out (HONE.out k) wo.heap.size wo D31.out L31_a.out ?_; intro w32 hr hs hb; have RA := Lib.hid hr; have F32 := Lib.hid (FX.out.below hb); have B32 := Lib.hid (joins HB.out hb); clear hr hs hb))
      go_loopw [18] (fun i wr => ∃ j : Nat, j ≤ k ∧ i = .int .i64 j ∧ oxRow m k j = true ∧ wr.heap[wo.heap.size]? = some (.cells (DD k) 61 (0, 0)) ∧ AllAt wr g 33 n DD n ∧ Below w.heap.size w wr) (fun i _ => k - (intOf i).toNat)
      case atStart => exact ⟨0, Nat.zero_le _, rfl, rfl, RA.out, F32.out, B32.out⟩
      case round =>
        obtain ⟨j, hj, rfl, hro, hra, hfa, hbel2⟩ := hrel
        have HRO := Lib.hid hro
        have HRA := Lib.hid hra
        have HFA := Lib.hid hfa
        have HB2 := Lib.hid hbel2
        clear hro hra hfa hbel2 RA F32 B32
        by_cases hlt2 : j < k
        · have h2 : (0 : Int) ≤ (j : Int) := by omega
          have h3 : (j : Int) < (k : Int) := by omega
          have hjn : j < n := by omega
          have HD := Lib.hid (HDT.out k j hlt hjn)
          have hox := HOX.out k j
          have hsr := HSR.out k j
          rw [HRO.out, Bool.true_and] at hsr
          have hno := HNO.out k j hlt hlt2
          obtain ⟨X, hX⟩ : ∃ X, X = dtN (m.getD k []) (m.getD j []) := ⟨_, rfl⟩
          rw [← hX] at HD hox
          clear hX
          go_wp2_with (first
            | ((with_reducible refine at_op (Op.load 61 (.tmp 20)) ?_); refine wpList_load_at rfl 61 (.tmp 20) rfl g 33 n n j DD rfl HFA.out hjn (HSZ.out j) _ Try.underlying61 rfl infoPh ?_)
            | ((with_reducible refine at_op (d := some 6) (Op.alloc 61) ?_); refine wpList_alloc_row rfl 61 rfl Z ZZ.out ?_; intro w41 hr hb hz; have R41_a := Lib.hid hr; have L41_a := Lib.hid (show wr.heap.size ≤ wr.heap.size from Nat.le_refl _); have D41 := Lib.hid (hb); clear hr hb hz)
            | ((with_reducible refine at_op (Op.store 61 (.tmp 6) (.tmp 21)) ?_); refine wpList_put_row rfl 61 (.tmp 6) (.tmp 21) rfl (wr.heap.size) (DD j) rfl rfl 61 Z R41_a.out 33 infoPh (HSZ.out j) SZZ.out (HONE.out j) wr.heap.size wr D41.out L41_a.out ?_; intro w42 hr hs hb; have RB := Lib.hid hr; have HRA4 := Lib.hid (rowB HRA.out hb); have HFA4 := Lib.hid (HFA.out.below hb); have HB4 := Lib.hid (joins HB2.out hb); clear hr hs hb)
            | ((with_reducible refine at_op (Op.load 61 (.tmp 4)) ?_); refine wpList_load_row rfl 61 (.tmp 4) rfl wo.heap.size rfl 61 (DD k) (0, 0) _ HRA4.out Try.underlying61 rfl (HIN.out k) ?_)
            | ((with_reducible refine at_op (Op.load 61 (.tmp 6)) ?_); refine wpList_load_row rfl 61 (.tmp 6) rfl wr.heap.size rfl 61 (DD j) (0, 0) _ RB.out Try.underlying61 rfl (HIN.out j) ?_))
          refine (HD.out _).mono ?_
          rintro e w5 ⟨rfl, hb⟩
          have HRA5 := Lib.hid (rowB HRA4.out hb)
          have HFA5 := Lib.hid (HFA4.out.below hb)
          have HB5 := Lib.hid (joins HB4.out hb)
          clear hb
          by_cases hx0 : X = 0
          · have HNX := Lib.hid (show oxRow m k (j + 1) = true by rw [hsr, hox, hx0]; rfl)
            subst hx0
            clear hox hsr hno
            go_wp2_with fail
            go_roundw
            case rel => exact ⟨j + 1, by omega, by go_num, HNX.out, HRA5.out, HFA5.out, HB5.out⟩
            case measure => simp [intOf]; omega
          · have HF := Lib.hid (hno (by rw [hox, decide_eq_false hx0]))
            clear hox hsr hno
            go_wp2_with fail
            exact ⟨rfl, HB5.out, Or.inr ⟨HF.out, rfl⟩⟩
        · obtain rfl : j = k := by omega
          have HNX := Lib.hid (show oxUp m (j + 1) = true by rw [HSU.out, HUP.out, HRO.out]; rfl)
          go_wp2_with fail
          go_round
          case rel => exact ⟨j + 1, by omega, by go_num, HNX.out, HB2.out⟩
          case measure => simp [intOf]; omega
    · obtain rfl : k = n := by omega
      have HR := Lib.hid (HEN.out HUP.out)
      go_wp2_with fail
      go_returns
      exact ⟨HB.out, Or.inl ⟨HR.out, rfl⟩⟩
set_option maxHeartbeats 2000000 in
theorem areOrthogonal1_any (v : Value) (m : List (List Int)) (p : Addr) (w : World) (hp : w.cell? p = some v) (hv : IR w v m) (hlen : sz2 m ≤ 1048576) :
    Calls Try.prog 40 #[.pointer (some p)] w (Tries w (aoK m) (CodesAt m)) := by
  have HC := Lib.hid (codesFrom_any v m w hv hlen)
  obtain ⟨a, cap, rfl⟩ := hv.slice
  unfold aoK
  cases hc : cdsOk m with
  | false =>
    rw [hc] at HC
    clear hv hc
    go_enter Try.func40, Try.ntmps40
    go_wp2_with fail
    refine (HC.out).mono ?_
    rintro e w1 ⟨hb, ⟨hk, _⟩ | ⟨hk, rfl⟩⟩
    · cases hk
    · exact ⟨rfl, hb, Or.inr ⟨by decide, rfl⟩⟩
  | true =>
    rw [hc] at HC
    have HO := Lib.hid (fun g w1 h => orthogonal_any g m (cdN m) w1 h (cdsOk_allN hc) (cdsOk_parts hc).1.2)
    obtain ⟨q, hq⟩ : ∃ q, q = orB m := ⟨_, rfl⟩
    rw [← hq] at HO ⊢
    clear hv hc hq
    obtain ⟨K, hK⟩ : ∃ K, K = (if q then 0 else 2) := ⟨_, rfl⟩
    rw [if_pos rfl]
    have HK := Lib.hid (show (q = true → K = 0) ∧ (q = false → K = 2) from ⟨fun h => by rw [hK, h]; rfl, fun h => by rw [hK, h]; rfl⟩)
    rw [← hK]
    clear hK
    go_enter Try.func40, Try.ntmps40
    go_wp2_with fail
    refine (HC.out).mono ?_
    rintro e w1 ⟨hb, ⟨hk, v, rfl, g, rfl, hg, hall⟩ | ⟨hk, rfl⟩⟩
    · have HB1 := Lib.hid hb
      have HA := Lib.hid hall
      clear hb hall
      go_wp2_with fail
      refine (HO.out g _ HA.out).mono ?_
      rintro e w2 ⟨hb, ⟨ho, rfl⟩ | ⟨ho, rfl⟩⟩
      · have HB2 := Lib.hid (joins HB1.out hb)
        have HA2 := Lib.hid (HA.out.below hb)
        have hk0 := HK.out.1 ho
        clear hb
        go_wp2_with fail
        go_returns
        exact ⟨HB2.out, Or.inl ⟨hk0, _, rfl, g, rfl, hg, HA2.out⟩⟩
      · have hk2 := HK.out.2 ho
        subst hk2
        exact ⟨rfl, joins HB1.out hb, Or.inr ⟨by decide, rfl⟩⟩
    · exact absurd rfl hk
set_option maxHeartbeats 1000000 in
theorem iAreOrthogonal (v : Value) (m : List (List Int)) (w : World) (hv : IR w v m) (hlen : sz2 m ≤ 1048576) : Calls Try.prog 15 #[v] w (Ret w (.tuple #[.bool (aoB m), .bool (cdsOk m)])) := by
  have hmf : ∀ (fn : Fn) (first cap : Array Value) (w : World), (Instr.makeFunc fn first cap).run Try.prog w = .ok (.func fn first cap) w := fun _ _ _ _ => rfl
  obtain ⟨a, cap, rfl⟩ := hv.slice
  have HSH := Lib.hid (fun (w1 : World) (hw : w1 = w.alloc (.cells #[.slice a m.length cap] 22)) => doorP 40 #[.pointer (some ⟨w.heap.size, 0, none⟩)] (fun w => by simp [go_sem]) (aoK m) (CodesAt m) (lasts_codes m) w1 (fun w2 hb => by
    subst hw
    exact areOrthogonal1_any _ m _ w2 (box_one hb) ((hv.below (belowa (Below.refl _ _) _)).below hb) hlen))
  have hk : (aoK m = 0 ∧ aoB m = true ∧ cdsOk m = true) ∨ (aoK m = 1 ∧ aoB m = false ∧ cdsOk m = false) ∨ (aoK m = 2 ∧ aoB m = false ∧ cdsOk m = true) := by
    unfold aoK aoB
    cases cdsOk m <;> cases orB m <;> simp
  clear hv
  rcases hk with ⟨h1, h2, h3⟩ | ⟨h1, h2, h3⟩ | ⟨h1, h2, h3⟩
  all_goals
    rw [h1] at HSH
    rw [h2, h3]
    clear h1 h2 h3
    go_enter Try.func15, Try.ntmps15
    go_wp2_with fail
    refine (HSH.out _ rfl).mono ?_
    rintro e w1 ⟨hb, v, rfl, h⟩
    have HB := Lib.hid (joins (belowa (Below.refl _ _) _) hb)
    clear h
    go_wp2_with fail
    go_returns
    exact ⟨rfl, HB.out⟩
end Go.Proofs.Ytapmehgdnofgnaa
