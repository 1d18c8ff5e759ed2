/- The program's PeakOf. -/
import Derived.Test.YtapmehgdnofgnaaISpH
import Derived.Test.YtapmehgdnofgnaaDoT
namespace Go.Proofs.Ytapmehgdnofgnaa
set_option maxRecDepth 100000
open Go.RowKit

theorem lasts_int (k : Int) : Lasts (fun _ v _ => v = .int .i64 k) := ⟨fun _ h => h, fun _ h => h⟩
theorem box_one' {w w' : World} {v : Value} {T : TypeId} (hb : Below (w.alloc (.cells #[v] T)).heap.size (w.alloc (.cells #[v] T)) w') : w'.cell? ⟨w.heap.size, 0, none⟩ = some v :=
  keepc hb (by simp [go_sem])
set_option maxRecDepth 100000 in
set_option maxHeartbeats 4000000 in
theorem peakOf1_any (v : Value) (l : List (Int × Int)) (p : Addr) (w : World) (hp : w.cell? p = some v) (hv : IG w v l) (hlen : l.length ≤ 1048576) :
    Calls Try.prog 62 #[.pointer (some p)] w (Tries w (kOf (hdOk l)) (fun _ v _ => v = .int .i64 (pkF l))) := by
  have HH := Lib.hid (heardFrom_any v l w hv hlen)
  obtain ⟨pa, cap, rfl⟩ := hv.slice
  cases hd : hdOk l with
  | false =>
    rw [hd, kOf_false] at HH
    rw [kOf_false]
    clear hv hd
    go_enter Try.func62, Try.ntmps62
    go_wp2_with fail
    refine (HH.out).mono ?_
    rintro e w1 ⟨hb, ⟨hk, _⟩ | ⟨hk, rfl⟩⟩
    · cases hk
    · exact ⟨rfl, hb, Or.inr ⟨by decide, rfl⟩⟩
  | true =>
    rw [hd, kOf_true] at HH
    rw [kOf_true]
    have hpk : pkF l = maxN (nmN l) l.length := by unfold pkF; rw [hd]; rfl
    rw [hpk]
    have hcz := fbC_in l hd
    have h64 := hdOk_len hd
    have HNO := Lib.hid (fun k (hk : k < l.length) => by
      have hg := good_in (goodL_at (hdOk_good hd) k hk)
      obtain ⟨p1, p2, e1, y1, y2⟩ := FC_conv64 (hcz k hk).1 (hcz k hk).2 hg.1 hg.2
      exact (⟨p1, p2, e1, fun w => normOfMatch_any y1 y2 ⟨by omega, by omega⟩ ⟨by omega, by omega⟩ w⟩ : ∃ p1 p2, cConvBits .f32 (fbC (gre l) (gim l) k).1 (fbC (gre l) (gim l) k).2 .f64 = some (p1, p2) ∧ ∀ w, Calls Try.prog 64 #[.complex .f64 p1 p2] w (Pure w (.int .i64 (nmN l k)))))
    have HMX := Lib.hid (fun k => show maxN (nmN l) (k + 1) = (if nmN l k > maxN (nmN l) k then nmN l k else maxN (nmN l) k) from rfl)
    have HHE := Lib.hid (show ∀ B v w, HeardAt l B v w → ∃ g, v = .slice (some ⟨g, 0, none⟩) l.length l.length ∧ RowC w B g l.length (fbC (gre l) (gim l)) from fun B v w h => h)
    obtain ⟨M, hM⟩ : ∃ M, M = maxN (nmN l) := ⟨_, rfl⟩
    have HM0 := Lib.hid (show M 0 = 0 by rw [hM]; rfl)
    rw [← hM] at HMX ⊢
    obtain ⟨D, hD⟩ : ∃ D, D = fbC (gre l) (gim l) := ⟨_, rfl⟩
    rw [← hD] at HNO HHE
    obtain ⟨n, hn⟩ : ∃ n, n = l.length := ⟨_, rfl⟩
    rw [← hn] at HNO HHE h64 ⊢
    clear hv hd hpk hcz hM hD hn
    go_enter Try.func62, Try.ntmps62
    go_wp2_with fail
    refine (HH.out).mono ?_
    rintro e w1 ⟨hb, ⟨-, v1, rfl, hcs⟩ | ⟨hk, rfl⟩⟩
    case inr => exact absurd rfl hk
    obtain ⟨g, rfl, hrow⟩ := HHE.out _ _ _ hcs
    have HB1 := Lib.hid hb
    have HR1 := Lib.hid hrow
    clear hb hcs hrow
    go_wp2_with fail
    go_loopw [8, 2] (fun i s wr => ∃ k : Nat, k ≤ n ∧ i = .int .i64 k ∧ s = .int .i64 (M k) ∧ wr = w1) (fun i _ _ => n - (intOf i).toNat)
    case atStart => exact ⟨0, Nat.zero_le _, rfl, by rw [HM0.out], rfl⟩
    case round =>
      obtain ⟨k, hk, rfl, rfl, rfl⟩ := hrel
      by_cases hlt : k < n
      · have h0 : (0 : Int) ≤ (k : Int) := by omega
        have h1 : (k : Int) < (n : Int) := by omega
        have c1 := HR1.out.cell k hlt
        obtain ⟨p1, p2, e1, hnm⟩ := HNO.out k hlt
        have hcv := fun w => run_convert_complex (P := Try.prog) w 80 82 .f32 .f64 _ _ _ _ rfl Try.underlying82 e1
        have hmx := HMX.out k
        obtain ⟨x1, hx1⟩ : ∃ r, r = (D k).1 := ⟨_, rfl⟩
        obtain ⟨x2, hx2⟩ : ∃ r, r = (D k).2 := ⟨_, rfl⟩
        rw [← hx1, ← hx2] at c1 hcv
        obtain ⟨z, hz⟩ : ∃ r, r = nmN l k := ⟨_, rfl⟩
        rw [← hz] at hnm hmx
        obtain ⟨M0, hM0⟩ : ∃ z, z = M k := ⟨_, rfl⟩
        obtain ⟨M1, hM1⟩ : ∃ z, z = M (k + 1) := ⟨_, rfl⟩
        rw [← hM0, ← hM1] at hmx
        rw [← hM0]
        have HM1 := Lib.hid hM1
        have HNM := Lib.hid hnm
        have HMX1 := Lib.hid hmx
        clear hx1 hx2 hz hM0 hM1 e1 hnm hmx
        go_wp2_with fail
        refine (HNM.out _).mono ?_
        rintro e w2 ⟨rfl, rfl⟩
        go_wp2_with fail
        go_roundw
        case rel =>
          refine ⟨k + 1, by omega, by go_num, ?_, trivial⟩
          rw [← HM1.out, HMX1.out]
        case measure => simp [intOf]; omega
      · obtain rfl : k = n := by omega
        go_wp2_with fail
        go_returns
        exact ⟨HB1.out, Or.inl ⟨rfl, _, rfl, rfl⟩⟩
set_option maxHeartbeats 1000000 in
theorem iPeakOf (v : Value) (l : List (Int × Int)) (w : World) (hv : IG w v l) (hlen : l.length ≤ 1048576) : Calls Try.prog 30 #[v] w (Ret w (.tuple #[.int .i64 (pkF l), .bool (hdOk l)])) := by
  have hmf : ∀ (fn : Fn) (first cap : Array Value) (w : World), (Instr.makeFunc fn first cap).run Try.prog w = .ok (.func fn first cap) w := fun _ _ _ _ => rfl
  obtain ⟨a, cap, rfl⟩ := hv.slice
  have HSH := Lib.hid (fun (w1 : World) (hw : w1 = w.alloc (.cells #[.slice a l.length cap] 40)) => sharedI 62 #[.pointer (some ⟨w.heap.size, 0, none⟩)] (fun w => by simp [go_sem]) (kOf (hdOk l)) _ (lasts_int (pkF l)) w1 (fun w2 hb => by
    subst hw
    exact peakOf1_any _ l _ w2 (box_one' hb) ((hv.below (belowa (Below.refl _ _) _)).below hb) hlen))
  have HN := Lib.hid (show kOf (hdOk l) ≠ 0 → pkF l = 0 from fun h => by
    unfold pkF
    cases hc : hdOk l with
    | true => rw [hc] at h; exact absurd rfl h
    | false => rfl)
  obtain ⟨L, hL⟩ : ∃ L, L = pkF l := ⟨_, rfl⟩
  rw [← hL] at HSH HN ⊢
  clear hv hL
  go_enter Try.func30, Try.ntmps30
  go_wp2_with fail
  refine (HSH.out _ rfl).mono ?_
  rintro e w1 ⟨hb, v, rfl, h⟩
  have HB := Lib.hid (joins (belowa (Below.refl _ _) _) hb)
  obtain rfl : v = .int .i64 L := by
    rcases h with ⟨_, h⟩ | ⟨hk, rfl⟩
    · exact h
    · rw [HN.out hk]
  rw [kOf_zero]
  clear h hb
  go_wp2_with fail
  go_returns
  exact ⟨rfl, HB.out⟩
end Go.Proofs.Ytapmehgdnofgnaa
