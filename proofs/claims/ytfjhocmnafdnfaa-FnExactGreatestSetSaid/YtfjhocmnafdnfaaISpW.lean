/- The program's GreatestSet. -/
import Derived.Test.YtfjhocmnafdnfaaISpV
import Derived.Test.YtfjhocmnafdnfaaClo
import Derived.Test.YtfjhocmnafdnfaaDoor
namespace Go.Proofs.Ytfjhocmnafdnfaa
set_option maxRecDepth 100000
open Go.RowKit

def gtR (m : List (List Int)) (i j : Nat) : Bool := dtN (m.getD i []) (m.getD j []) == 0
/-- The members of the first of the greatest sets. -/
def gtV (m : List (List Int)) : List Nat := gtL (gtR m) m.length [] 0 []
def gsF (m : List (List Int)) : List Int := if cdsOk m then nL (gtV m) else []
theorem gs_k0 {m : List (List Int)} (h : kOf (cdsOk m) = 0) : gsF m = nL (gtV m) := by
  unfold gsF
  cases hc : cdsOk m with
  | true => rfl
  | false => rw [hc] at h; cases h
theorem gs_k1 {m : List (List Int)} (h : kOf (cdsOk m) ≠ 0) : gsF m = [] := by
  unfold gsF
  cases hc : cdsOk m with
  | true => rw [hc] at h; exact absurd rfl h
  | false => rfl
theorem gs_kz (m : List (List Int)) : (kOf (cdsOk m) == 0) = cdsOk m := by cases cdsOk m <;> rfl
set_option maxRecDepth 100000 in
set_option maxHeartbeats 4000000 in
theorem greatestSet1_any (v : Value) (m : List (List Int)) (p : Addr) (w : World) (hp : w.cell? p = some v) (hv : IR w v m) (hlen : sz2 m ≤ 1048576) :
    Calls Try.prog 101 #[.pointer (some p)] w (Tries w (kOf (cdsOk m)) (fun B v w => Own w B v (nL (gtV m)))) := by
  have HC := Lib.hid (codesFrom_any v m w hv hlen)
  obtain ⟨pa, cap, rfl⟩ := hv.slice
  cases hc : cdsOk m with
  | false =>
    rw [hc, kOf_false] at HC
    rw [kOf_false]
    clear hv hc
    go_enter Try.func101, Try.ntmps101
    go_wp2_with fail
    refine (HC.out).mono ?_
    rintro e w1 ⟨hb, ⟨hk, _⟩ | ⟨hk, rfl⟩⟩
    · cases hk
    · exact ⟨rfl, hb, Or.inr ⟨by decide, rfl⟩⟩
  | true =>
    rw [hc, kOf_true] at HC
    rw [kOf_true]
    have hok := cdsOk_allN hc
    have h8 := (cdsOk_parts hc).1.2
    have HGS := Lib.hid (fun gC w1 (hall : AllAt w1 gC 33 m.length (cdD m) m.length) => show Calls Try.prog 102 #[.slice (some ⟨gC, 0, none⟩) m.length m.length, .slice none 0 0, .int .i64 0] w1 (Picks w1 (.slice none 0 0) [] (gtV m)) from
      greatestSet_any (gtR m) gC m.length (cdD m) h8
        (fun i set v w hi hset hsl hv ha => isUndisturbed_any gC m.length (cdD m) (fun k => m.getD k []) (cdN m) hok (fun k _ => rfl) i set v w hi hset hsl hv ha)
        (fun l v w hl hv => clone_any l v w (by omega) hv) m.length [] 0 (.slice none 0 0) w1 (by omega) (by simp) (by simp) (show Own w1 0 (.slice none 0 0) [] from World.ownsRow_nil _ _ _ _).is hall)
    have HCA := Lib.hid (show ∀ B v w, CodesAt m B v w → ∃ g, v = .slice (some ⟨g, 0, none⟩) m.length m.length ∧ B ≤ g ∧ AllAt w g 33 m.length (cdD m) m.length from fun B v w h => h)
    obtain ⟨DD, hDD⟩ : ∃ D, D = cdD m := ⟨_, rfl⟩
    rw [← hDD] at HGS HCA
    obtain ⟨L, hL⟩ : ∃ L, L = gtV m := ⟨_, rfl⟩
    rw [← hL] at HGS ⊢
    obtain ⟨n, hn⟩ : ∃ n, n = m.length := ⟨_, rfl⟩
    rw [← hn] at HGS HCA h8
    clear hv hc hok hDD hn hL
    go_enter Try.func101, Try.ntmps101
    go_wp2_with fail
    refine (HC.out).mono ?_
    rintro e w1 ⟨hb, ⟨-, v1, rfl, hcs⟩ | ⟨hk, rfl⟩⟩
    case inr => exact absurd rfl hk
    obtain ⟨gC, rfl, hgC, hall⟩ := HCA.out _ _ _ hcs
    have B1 := Lib.hid hb
    have HG1 := Lib.hid (HGS.out gC w1 hall)
    clear hb hcs hall hgC
    go_wp2_with fail
    refine (HG1.out).mono ?_
    rintro e w2 ⟨u, rfl, hu, huo, hb2⟩
    have B2 := Lib.hid (joins B1.out hb2)
    have O2 := Lib.hid (show Own w2 w.heap.size u (nL L) from by
      rcases huo with ⟨rfl, rfl⟩ | ho
      · exact World.ownsRow_nil _ _ _ _
      · exact ho.mono B1.out.size)
    clear hu huo hb2
    go_wp2_with fail
    go_returns
    exact ⟨B2.out, Or.inl ⟨rfl, _, rfl, O2.out⟩⟩
set_option maxRecDepth 100000 in
set_option maxHeartbeats 2000000 in
theorem iGreatestSet (va : Value) (m : List (List Int)) (w : World) (h_va : IR w va m) (b_va : sz2 m ≤ 1048576) :
    Calls Try.prog 12 #[va] w (MakesB w (gsF m) (cdsOk m)) := by
  have hmf : ∀ (fn : Fn) (first cap : Array Value) (w : World), (Instr.makeFunc fn first cap).run Try.prog w = .ok (.func fn first cap) w := fun _ _ _ _ => rfl
  have hk0 : kOf (cdsOk m) = 0 → gsF m = nL (gtV m) := fun h => by exact gs_k0 h
  have hk1 : kOf (cdsOk m) ≠ 0 → gsF m = [] := fun h => by exact gs_k1 h
  have hkz : (kOf (cdsOk m) == 0) = cdsOk m := gs_kz m
  obtain ⟨wb0, hwb0⟩ : ∃ w', w' = w.alloc (.cells #[va] 22) := ⟨_, rfl⟩
  have HB0 := Lib.hid (show Below w.heap.size w wb0 by rw [hwb0]; exact belowa (Below.refl _ _) _)
  have HS0 := Lib.hid (show wb0.heap.size = w.heap.size + 1 by rw [hwb0]; simp)
  have hc0_0 : wb0.cell? ⟨w.heap.size, 0, none⟩ = some (va) := by rw [hwb0]; simp [go_sem]
  have HC0_0 := Lib.hid hc0_0
  have HSH := Lib.hid (sharedS 101 #[.pointer (some ⟨w.heap.size, 0, none⟩)] (fun w => by simp [go_sem]) (kOf (cdsOk m)) _ (lasts_own (nL (gtV m))) wb0 (fun w2 hb2 => greatestSet1_any va m _ w2 (keepc hb2 HC0_0.out) (h_va.below (joins HB0.out hb2)) b_va))
  have HK0 := Lib.hid hk0
  have HK1 := Lib.hid hk1
  have HKZ := Lib.hid hkz
  obtain ⟨pa0, ca0, rfl⟩ := h_va.slice
  obtain ⟨LL, hLL⟩ : ∃ L, L = nL (gtV m) := ⟨_, rfl⟩
  obtain ⟨FF, hFF⟩ : ∃ L, L = gsF m := ⟨_, rfl⟩
  obtain ⟨BB, hBB⟩ : ∃ L, L = cdsOk m := ⟨_, rfl⟩
  obtain ⟨KK, hKK⟩ : ∃ L, L = kOf (cdsOk m) := ⟨_, rfl⟩
  rw [← hKK] at HSH HK0 HK1 HKZ
  rw [← hBB] at HKZ
  rw [← hLL] at HSH HK0
  rw [← hFF] at HK0 HK1
  rw [← hFF, ← hBB]
  clear hk0 hk1 hkz hKK hLL hFF hBB h_va hc0_0
  go_enter Try.func12, Try.ntmps12
  go_wp2_with fail
  rw [← hwb0]
  clear hwb0
  refine (HSH.out).mono ?_
  rintro e w1 ⟨hb, v, rfl, h⟩
  have HB := Lib.hid (joins HB0.out hb)
  have HH := Lib.hid (show Own w1 w.heap.size v FF from by
    rcases h with ⟨hk, h⟩ | ⟨hk, rfl⟩
    · rw [HK0.out hk]; exact Own.mono h (by rw [HS0.out]; omega)
    · rw [HK1.out hk]; exact World.ownsRow_nil _ _ _ _)
  rw [HKZ.out]
  clear h hb
  go_wp2_with fail
  go_returns
  exact ⟨_, rfl, HH.out, HB.out⟩
end Go.Proofs.Ytfjhocmnafdnfaa
