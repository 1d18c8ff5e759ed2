/- The model's GatherOf. -/
import Derived.Test.YtapmehgdnofgnabGaM
import Derived.Test.YtapmehgdnofgnabSSpM
import Derived.Test.YtapmehgdnofgnabSOrt
import Derived.Test.YtapmehgdnofgnabSSh
namespace Go.Proofs.Ytapmehgdnofgnab
set_option maxRecDepth 100000
open Go.RowKit

set_option maxRecDepth 100000 in
set_option maxHeartbeats 4000000 in
theorem sGatherOf (va vb : Value) (m : List (List Int)) (l : List (Int × Int)) (w : World) (hva : IR w va m) (hcap : capOk va) (hvb : IG w vb l) (hlen : sz2 m ≤ 1048576) :
    Calls Try.prog 18 #[va, vb] w (MakesGB w (gaF m l) (gaB m l)) := by
  have HCD := Lib.hid (sdCodes_any va m w hva hlen)
  have HSI := Lib.hid (fun w1 (h : IG w1 vb l) => sdSignal_any vb l w1 h)
  have HVA := Lib.hid hva
  have HVB := Lib.hid hvb
  have hcap0 := hcap
  obtain ⟨pa, ca, rfl⟩ := hva.slice
  obtain ⟨pb, cb, rfl⟩ := hvb.slice
  have hdef : gaB m l = (cdsOk m && orB m && hdOk l && decide (l.length = cdN m) && shOk l.length (gaL m l)) := rfl
  have hfin : gaB m l = false → gaF m l = [] := fun h => by unfold gaF; rw [h]; rfl
  cases h1 : cdsOk m with
  | false =>
    have hb := show gaB m l = false by rw [hdef, h1]; rfl
    rw [hb, hfin hb]
    rw [h1] at HCD
    clear hdef hfin hb h1 hva hvb
    go_enter Try.func18, Try.ntmps18
    go_wp2_with fail
    refine (HCD.out).mono ?_
    rintro e w1 ⟨rfl, hb1⟩
    go_wp2_with fail
    go_returns
    exact ⟨_, rfl, OwnG.nil _ _, hb1⟩
  | true =>
  rw [h1] at HCD
  have HOR := Lib.hid (fun w1 (h : IR w1 (.slice pa m.length ca) m) => sdOrthogonal_any _ m (cdN m) w1 h hcap0 (cdsOk_allN h1) (by unfold sz2 at hlen; omega))
  cases h2 : orB m with
  | false =>
    have hb := show gaB m l = false by rw [hdef, h2, Bool.and_false]; rfl
    rw [hb, hfin hb]
    rw [h2] at HOR
    clear hdef hfin hb h1 h2 hva hvb
    go_enter Try.func18, Try.ntmps18
    go_wp2_with fail
    refine (HCD.out).mono ?_
    rintro e w1 ⟨rfl, hb1⟩
    go_wp2_with fail
    refine (HOR.out _ (HVA.out.below hb1)).mono ?_
    rintro e w2 ⟨rfl, hb2⟩
    have hb3 := joins hb1 hb2
    go_wp2_with fail
    go_returns
    exact ⟨_, rfl, OwnG.nil _ _, hb3⟩
  | true =>
  rw [h2] at HOR
  cases h3 : hdOk l with
  | false =>
    have hb := show gaB m l = false by rw [hdef, h3, Bool.and_false]; rfl
    rw [hb, hfin hb]
    rw [h3] at HSI
    clear hdef hfin hb h1 h2 h3 hva hvb
    go_enter Try.func18, Try.ntmps18
    go_wp2_with fail
    refine (HCD.out).mono ?_
    rintro e w1 ⟨rfl, hb1⟩
    go_wp2_with fail
    refine (HOR.out _ (HVA.out.below hb1)).mono ?_
    rintro e w2 ⟨rfl, hb2⟩
    have hb3 := joins hb1 hb2
    go_wp2_with fail
    refine (HSI.out _ (HVB.out.below hb3)).mono ?_
    rintro e w3 ⟨rfl, hb4⟩
    have hb5 := joins hb3 hb4
    go_wp2_with fail
    go_returns
    exact ⟨_, rfl, OwnG.nil _ _, hb5⟩
  | true =>
  rw [h3] at HSI
  have hm1 := (cdsOk_parts h1).1
  have HC0 := Lib.hid (fun (w1 : World) (h : IR w1 (.slice pa m.length ca) m) => show ∃ b off a0 c0, pa = some ⟨b, off, none⟩ ∧ w1.cell? ⟨b, off, none⟩ = some (.slice a0 (cdN m) c0) from by
    obtain ⟨-, b, off, u, hau, hc, hu⟩ := h.at 0 (by omega)
    obtain ⟨a0, c0, rfl⟩ := hu.sl
    exact ⟨b, off, a0, c0, hau, by rw [Nat.add_zero] at hc; exact hc⟩)
  by_cases hln : l.length = cdN m
  case neg =>
    have hb := show gaB m l = false by rw [hdef, decide_eq_false hln, Bool.and_false]; rfl
    rw [hb, hfin hb]
    have HNZ := Lib.hid (cdN_len h1).1
    obtain ⟨N, hN⟩ : ∃ N, N = cdN m := ⟨_, rfl⟩
    rw [← hN] at HC0 hln HNZ
    have hne : ¬ (l.length : Int) = (N : Int) := by omega
    have hne2 : ((l.length : Int) != (N : Int)) = true := by simpa using hne
    have hm0 : 0 < m.length := by omega
    clear hdef hfin hb h1 h2 h3 hva hvb hln hN
    go_enter Try.func18, Try.ntmps18
    go_wp2_with fail
    refine (HCD.out).mono ?_
    rintro e w1 ⟨rfl, hb1⟩
    go_wp2_with fail
    refine (HOR.out _ (HVA.out.below hb1)).mono ?_
    rintro e w2 ⟨rfl, hb2⟩
    have hb3 := joins hb1 hb2
    go_wp2_with fail
    refine (HSI.out _ (HVB.out.below hb3)).mono ?_
    rintro e w3 ⟨rfl, hb4⟩
    have hb5 := joins hb3 hb4
    obtain ⟨b, off, a0, c0, rfl, cc⟩ := HC0.out _ (HVA.out.below hb5)
    clear hb1 hb2 hb3 hb4
    go_wp2_with fail
    go_returns
    exact ⟨_, rfl, OwnG.nil _ _, hb5⟩
  have HMT := Lib.hid (fun i (hi : i < m.length) (vs : Value) (w1 : World) (g1 : IG w1 (.slice pb l.length cb) l) (g2 : IS w1 vs (m.getD i [])) => show Calls Try.prog 38 #[.slice pb l.length cb, vs, .int .i64 0] w1 (Ret w1 (.agg #[.int .i64 (gaX m l i), .int .i64 (gaY m l i)])) from by
    have hr := (cdsOk_parts h1).2 i hi
    exact sdMatch_any _ vs l (m.getD i []) 0 w1 g1 g2 (hdOk_good h3) (cdOk_seq hr.1).1 (by rw [hr.2, hln]; omega) (by have := hdOk_len h3; omega))
  have hnl := cdN_len h1
  have HSH := Lib.hid (fun (v : Value) (w1 : World) (g : IG w1 v (gaL m l)) => show Calls Try.prog 49 #[v, .int .i64 l.length] w1 (MakesGB w1 (gaF m l) (gaB m l)) from by
    have hx := tfShare_any v (gaL m l) l.length (by omega) (by omega) w1 g (by rw [gaL_length]; omega) (fun i hi => by
      rw [gaL_length] at hi
      have hl := ga_le h1 h3 hln i hi
      have ex : gre (gaL m l) i = gaX m l i := genG_re _ _ _ _ hi
      have ey : gim (gaL m l) i = gaY m l i := genG_im _ _ _ _ hi
      rw [ex, ey]
      omega)
    have hB : gaB m l = shOk l.length (gaL m l) := by rw [hdef, h1, h2, h3, decide_eq_true hln]; rfl
    rw [show gaF m l = shA l.length (gaL m l) by unfold gaF shA; rw [hB], hB]
    exact hx)
  have HGL := Lib.hid (show gaL m l = genG m.length (gaX m l) (gaY m l) from rfl)
  obtain ⟨R, hR⟩ : ∃ R, R = gaF m l := ⟨_, rfl⟩
  obtain ⟨q, hq⟩ : ∃ R, R = gaB m l := ⟨_, rfl⟩
  rw [← hR, ← hq] at HSH ⊢
  obtain ⟨X, hX⟩ : ∃ X, X = gaX m l := ⟨_, rfl⟩
  obtain ⟨Y, hY⟩ : ∃ X, X = gaY m l := ⟨_, rfl⟩
  rw [← hX, ← hY] at HMT HGL
  rw [HGL.out] at HSH
  rw [← hln] at HC0
  obtain ⟨N, hN⟩ : ∃ N, N = l.length := ⟨_, rfl⟩
  rw [← hN] at HC0 HMT HSH HSI HVB ⊢
  obtain ⟨n, hn⟩ : ∃ n, n = m.length := ⟨_, rfl⟩
  have HNM := Lib.hid hn
  rw [← hn] at HMT HSH HCD HOR HVA HC0 hm1 ⊢
  have hm0 : 0 < n := by omega
  obtain ⟨hm2, hm3⟩ := hm1
  clear hdef hfin h1 h2 h3 hva hvb hln hnl hR hq hX hY hN hn HGL
  go_enter Try.func18, Try.ntmps18
  go_wp2_with fail
  refine (HCD.out).mono ?_
  rintro e w1 ⟨rfl, hb1⟩
  go_wp2_with fail
  refine (HOR.out _ (HVA.out.below hb1)).mono ?_
  rintro e w2 ⟨rfl, hb2⟩
  have hb3 := joins hb1 hb2
  go_wp2_with fail
  refine (HSI.out _ (HVB.out.below hb3)).mono ?_
  rintro e w3 ⟨rfl, hb4⟩
  have hb5 := joins hb3 hb4
  obtain ⟨b, off, a0, c0, rfl, cc⟩ := HC0.out _ (HVA.out.below hb5)
  have HB5 := Lib.hid hb5
  clear hb1 hb2 hb3 hb4 hb5
  go_wp2_with fail
  go_loopw [33, 6] (fun i o wr => ∃ k : Nat, k ≤ n ∧ i = .int .i64 k ∧ OwnG wr w.heap.size o (genG k X Y) ∧ Below w.heap.size w wr) (fun i _ _ => n - (intOf i).toNat)
  case atStart => exact ⟨0, Nat.zero_le _, rfl, OwnG.nil _ _, HB5.out⟩
  case round =>
    obtain ⟨k, hk, rfl, hown, hbel⟩ := hrel
    have HO := Lib.hid hown
    have HB := Lib.hid hbel
    clear hown hbel cc
    by_cases hlt : k < n
    · have h0 : (0 : Int) ≤ (k : Int) := by omega
      have h1 : (k : Int) < (n : Int) := by omega
      obtain ⟨-, b', off', u, hau, hc, hu⟩ := (HVA.out.below HB.out).at k (by rw [← HNM.out]; exact hlt)
      obtain ⟨rfl, rfl⟩ : b = b' ∧ off = off' := by
        simp only [Option.some.injEq, Addr.mk.injEq] at hau
        exact ⟨hau.1, hau.2.1⟩
      have HM := Lib.hid (HMT.out k hlt u _ (HVB.out.below HB.out) hu)
      have hgs := genG_succ k X Y
      obtain ⟨x, hx⟩ : ∃ x, x = X k := ⟨_, rfl⟩
      obtain ⟨y, hy⟩ : ∃ x, x = Y k := ⟨_, rfl⟩
      rw [← hx, ← hy] at HM hgs
      have HGS := Lib.hid hgs
      have HGL := Lib.hid (show (genG k X Y).length ≤ 1048576 by rw [genG_length]; omega)
      clear hgs hx hy hau hu
      go_wp2_with fail
      refine (HM.out).mono ?_
      rintro e w6 ⟨rfl, hb⟩
      have HB6 := Lib.hid (joins HB.out hb)
      have HO6 := Lib.hid (HO.out.below hb)
      clear hb
      go_wp2_with (at_builtin; refine wpList_pushG rfl _ _ rfl w.heap.size _ (genG k X Y) rfl (HO6.out.alloc _) w6.heap.size 1 x y rfl (by simp) (by simp) HGL.out w.heap.size w (HB6.out.alloc HB6.out.size _) (Nat.le_refl _) (by have := HB6.out.size; simp; omega) (by have := HB6.out.size; simp; omega) ?_; intro v3 w3 ho3 hb3)
      go_roundw
      case rel => exact ⟨k + 1, by omega, by go_num, by rw [HGS.out]; assumption, by assumption⟩
      case measure => simp [intOf]; omega
    · obtain rfl : k = n := by omega
      have HS := Lib.hid (HSH.out u6 wr HO.out.is)
      go_wp2_with fail
      refine (HS.out).mono ?_
      rintro e w7 ⟨v7, rfl, ho7, hb7⟩
      have HB7 := Lib.hid (joins HB.out hb7)
      have HO7 := Lib.hid (OwnG.mono ho7 HB.out.size)
      clear ho7 hb7
      go_wp2_with fail
      go_returns
      exact ⟨_, rfl, HO7.out, HB7.out⟩
end Go.Proofs.Ytapmehgdnofgnab
