/- The model's DisturbanceOf. -/
import Derived.Test.YtapmehgdnofgnaaSp
import Derived.Test.YtapmehgdnofgnaaSOrt
import Derived.Test.YtapmehgdnofgnaaSSpH
namespace Go.Proofs.Ytapmehgdnofgnaa
set_option maxRecDepth 100000
open Go.RowKit

set_option maxRecDepth 100000 in
set_option maxHeartbeats 2000000 in
theorem sDisturbanceOf (v : Value) (m : List (List Int)) (w : World) (hv : IR w v m) (hlen : sz2 m ≤ 1048576) :
    Calls Try.prog 16 #[v] w (MakesRB w (diA m) (cdsOk m)) := by
  have HG := Lib.hid (sdCodes_any v m w hv hlen)
  cases hc : cdsOk m with
  | false =>
    have hd : diA m = [] := by unfold diA; rw [hc]; rfl
    rw [hd]
    rw [hc] at HG
    obtain ⟨a, cap, rfl⟩ := hv.slice
    clear hv hc hd
    go_enter Try.func16, Try.ntmps16
    go_wp2_with fail
    refine (HG.out).mono ?_
    rintro e w1 ⟨rfl, hb1⟩
    go_wp2_with fail
    go_returns
    exact ⟨_, rfl, OwnR.nil _ _, hb1⟩
  | true =>
    have hok := cdsOk_allN hc
    obtain ⟨R, hR⟩ : ∃ R : Nat → List Int, R = fun i => gen m.length (fun j => dtN (m.getD i []) (m.getD j [])) := ⟨_, rfl⟩
    have hd : diA m = genR m.length R := by unfold diA; rw [hc, if_pos rfl, hR]; rfl
    rw [hd]
    rw [hc] at HG
    have h8 := (cdsOk_parts hc).1.2
    have HD := Lib.hid (fun i j (hi : i < m.length) (hj : j < m.length) (va vb : Value) (w1 : World) (h1 : IS w1 va (m.getD i [])) (h2 : IS w1 vb (m.getD j [])) => sdDot_any va vb (m.getD i []) (m.getD j []) w1 h1 h2 (hok i hi).1 (hok j hj).1 (by rw [(hok i hi).2, (hok j hj).2]))
    have HN := Lib.hid (fun i j (hi : i < m.length) w1 => show Calls Try.prog 42 #[.agg #[.int .i64 (dtX (m.getD i []) (m.getD j [])), .int .i64 (dtY (m.getD i []) (m.getD j []))]] w1 (Ret w1 (.int .i64 (dtN (m.getD i []) (m.getD j [])))) from phNormW_any _ _ (by have := good_in (dt_good (b := m.getD j []) (hok i hi).1); omega) (by have := good_in (dt_good (b := m.getD j []) (hok i hi).1); omega) w1)
    have HV := Lib.hid hv
    obtain ⟨a, cap, rfl⟩ := hv.slice
    have HR := Lib.hid hR
    obtain ⟨n, hn⟩ : ∃ n, n = m.length := ⟨_, rfl⟩
    have HNM := Lib.hid hn
    rw [← hn] at HG HD HN HV HR h8 ⊢
    clear hv hc hd hok hR hn
    go_enter Try.func16, Try.ntmps16
    go_wp2_with fail
    refine (HG.out).mono ?_
    rintro e w1 ⟨rfl, hb1⟩
    have HB1 := Lib.hid hb1
    clear hb1
    go_wp2_with fail
    go_loopw [15, 4] (fun x o wr => ∃ j : Nat, j ≤ n ∧ x = .int .i64 j ∧ OwnR wr w.heap.size o (genR j R) ∧ Below w.heap.size w wr) (fun x _ _ => n - (intOf x).toNat)
    case atStart => exact ⟨0, Nat.zero_le _, rfl, OwnR.nil _ _, HB1.out⟩
    case round =>
      obtain ⟨i, hi, rfl, hown, hbel⟩ := hrel
      have HB := Lib.hid hbel
      have HO := Lib.hid hown
      clear hown hbel HB1
      obtain ⟨wo, hwo⟩ : ∃ w', w' = wr := ⟨_, rfl⟩
      rw [← hwo] at HB HO ⊢
      clear hwo
      by_cases hlt : i < n
      · have h0 : (0 : Int) ≤ (i : Int) := by omega
        have h1 : (i : Int) < (n : Int) := by omega
        obtain ⟨-, b, off, u, hau, hc, hu⟩ := (HV.out.below HB.out).at i (by rw [← HNM.out]; exact hlt)
        subst hau
        have HU := Lib.hid hu
        obtain ⟨G, hG⟩ : ∃ G : Nat → Int, G = fun j => dtN (m.getD i []) (m.getD j []) := ⟨_, rfl⟩
        have HG := Lib.hid hG
        have HRJ := Lib.hid (show R i = gen n G by rw [HR.out, hG])
        clear hu hG
        go_wp2_with fail
        go_loopw [21, 7] (fun y r wq => ∃ j : Nat, j ≤ n ∧ y = .int .i64 j ∧ Own wq wo.heap.size r (gen j G) ∧ Below wo.heap.size wo wq) (fun y _ _ => n - (intOf y).toNat)
        case atStart => exact ⟨0, Nat.zero_le _, rfl, World.ownsRow_nil _ _ _ _, Below.refl _ _⟩
        case round =>
          obtain ⟨j, hj, rfl, hr, hbq⟩ := hrel
          have HBQ := Lib.hid hbq
          have HRW := Lib.hid hr
          clear hbq hr
          by_cases hjl : j < n
          · have h0i : (0 : Int) ≤ (j : Int) := by omega
            have h1i : (j : Int) < (n : Int) := by omega
            obtain ⟨-, b', off', u', hau', hc', hu'⟩ := ((HV.out.below HB.out).below HBQ.out).at j (by rw [← HNM.out]; exact hjl)
            obtain ⟨rfl, rfl⟩ : b = b' ∧ off = off' := by
              simp only [Option.some.injEq, Addr.mk.injEq] at hau'
              exact ⟨hau'.1, hau'.2.1⟩
            have HDD := Lib.hid (HD.out i j hlt hjl u u' _ (HU.out.below HBQ.out) hu')
            have HNN := Lib.hid (HN.out i j hlt)
            have hgs := gen_succ j G
            have hgj : G j = dtN (m.getD i []) (m.getD j []) := by rw [HG.out]
            rw [hgj] at hgs
            obtain ⟨X, hX⟩ : ∃ X, X = dtX (m.getD i []) (m.getD j []) := ⟨_, rfl⟩
            obtain ⟨Y, hY⟩ : ∃ X, X = dtY (m.getD i []) (m.getD j []) := ⟨_, rfl⟩
            obtain ⟨z, hz⟩ : ∃ X, X = dtN (m.getD i []) (m.getD j []) := ⟨_, rfl⟩
            rw [← hX, ← hY] at HDD HNN
            rw [← hz] at HNN hgs
            have HGS := Lib.hid hgs
            have HGL := Lib.hid (show (gen j G).length ≤ 1048576 by rw [gen_length]; omega)
            clear hgs hgj hX hY hz hau' hu'
            go_wp2_with fail
            refine (HDD.out).mono ?_
            rintro e w5 ⟨rfl, hb⟩
            have HB5 := Lib.hid (joins HBQ.out hb)
            have HO5 := Lib.hid (HRW.out.below hb)
            clear hb
            go_wp2_with fail
            refine (HNN.out _).mono ?_
            rintro e w6 ⟨rfl, hb⟩
            have HB6 := Lib.hid (joins HB5.out hb)
            have HO6 := Lib.hid (HO5.out.below hb)
            clear hb
            go_wp2_with (at_builtin; refine wpList_push rfl _ _ rfl wo.heap.size _ (gen j G) rfl (HO6.out.alloc _) w6.heap.size 1 z rfl (by simp) HGL.out wo.heap.size wo (HB6.out.alloc HB6.out.size _) (Nat.le_refl _) (by have := HB6.out.size; simp; omega) (by have := HB6.out.size; simp; omega) ?_; intro v2 w2 ho2 hb2)
            go_roundw
            case rel => exact ⟨j + 1, by omega, by go_num, by rw [HGS.out]; assumption, by assumption⟩
            case measure => simp [intOf]; omega
          · obtain rfl : j = n := by omega
            have hgs := genR_succ i R
            rw [HRJ.out] at hgs
            have HGS := Lib.hid hgs
            have HGL := Lib.hid (show (genR i R).length ≤ 1048576 by rw [genR_length]; omega)
            obtain ⟨ra, rc, hre⟩ := HRW.out.is.sl
            subst hre
            clear hgs
            go_wp2_with (first
              | (at_builtin; refine wpList_pushR rfl _ _ rfl w.heap.size _ (genR i R) rfl wo HO.out (HBQ.out.alloc HBQ.out.size _) wr.heap.size 1 _ (gen j G) rfl (by simp) (HRW.out.alloc _) HGL.out w.heap.size w (belowa (joins HB.out HBQ.out) _) (Nat.le_refl _) HB.out.size (by have := HB.out.size; have := HBQ.out.size; simp; omega) ?_; intro v2 w2 ho2 hb2))
            go_roundw
            case rel => exact ⟨i + 1, by omega, by go_num, by rw [HGS.out]; assumption, by assumption⟩
            case measure => simp [intOf]; omega
      · obtain rfl : i = n := by omega
        go_wp2_with fail
        go_returns
        exact ⟨_, rfl, HO.out, HB.out⟩
end Go.Proofs.Ytapmehgdnofgnaa
