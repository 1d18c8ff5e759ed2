/- The program's TransformStep. -/
import Derived.Test.YtgibdndckoapfaaITt
import Derived.Test.YtgibdndckoapfaaStM
namespace Go.Proofs.Ytgibdndckoapfaa
set_option maxRecDepth 100000
open Go.RowKit

def wtOf (p n : Int) : Int := if p = 0 ∧ 1 < n then 1 else if p = 1 ∧ 4 < n then 4 else 0
def wtB (p n : Int) : Bool := decide ((p = 0 ∧ 1 < n) ∨ (p = 1 ∧ 4 < n))
set_option maxHeartbeats 1000000 in
theorem weightOf_any (p n : Int) (w : World) : Calls Try.prog 52 #[.int .i64 p, .int .i64 n] w (Pure w (.tuple #[.int .i64 (wtOf p n), .bool (wtB p n)])) := by
  by_cases h0 : p = 0
  · subst h0
    by_cases h1 : 1 < n
    · rw [show wtOf 0 n = 1 from if_pos ⟨rfl, h1⟩, show wtB 0 n = true from decide_eq_true (Or.inl ⟨rfl, h1⟩)]
      go_enter Try.func52, Try.ntmps52
      go_wp2_with fail
      go_returns
      exact ⟨rfl, rfl⟩
    · rw [show wtOf 0 n = 0 by unfold wtOf; rw [if_neg (by omega), if_neg (by omega)], show wtB 0 n = false from decide_eq_false (by omega)]
      go_enter Try.func52, Try.ntmps52
      go_wp2_with fail
      go_returns
      exact ⟨rfl, rfl⟩
  · by_cases hp1 : p = 1
    · subst hp1
      by_cases h1 : 4 < n
      · rw [show wtOf 1 n = 4 by unfold wtOf; rw [if_neg (by omega), if_pos ⟨rfl, h1⟩], show wtB 1 n = true from decide_eq_true (Or.inr ⟨rfl, h1⟩)]
        go_enter Try.func52, Try.ntmps52
        go_wp2_with fail
        go_returns
        exact ⟨rfl, rfl⟩
      · rw [show wtOf 1 n = 0 by unfold wtOf; rw [if_neg (by omega), if_neg (by omega)], show wtB 1 n = false from decide_eq_false (by omega)]
        go_enter Try.func52, Try.ntmps52
        go_wp2_with fail
        go_returns
        exact ⟨rfl, rfl⟩
    · rw [show wtOf p n = 0 by unfold wtOf; rw [if_neg (by omega), if_neg (by omega)], show wtB p n = false from decide_eq_false (by omega)]
      have e0 : (p == 0) = false := by simp; omega
      have e1 : (p == 1) = false := by simp; omega
      go_enter Try.func52, Try.ntmps52
      go_wp2_with fail
      go_returns
      exact ⟨rfl, rfl⟩
set_option maxRecDepth 100000 in
set_option maxHeartbeats 2000000 in
theorem itransformStep (v : Value) (l : List (Int × Int)) (p : Int) (w : World) (hv : IG w v l) : Calls Try.prog 22 #[v, .int .i64 p] w (MakesGB w (tsA l p) (tsOk l p)) := by
  have HS := Lib.hid (signalOf_any 3 (tfSz l.length) v l (fun w => by rw [← tfZ_nat]; exact fits_conj _ w) (fun h => by have := tfSz_cases h; omega) w hv)
  have HW := Lib.hid (weightOf_any p (l.length : Int))
  have no : tsV l p = false → tsOk l p = false ∧ tsA l p = [] := fun h => by
    have h1 : tsOk l p = false := by unfold tsOk; rw [h]; rfl
    exact ⟨h1, by unfold tsA; rw [h1]; rfl⟩
  have hdef : tsA l p = if tsOk l p then spL l (tsS p) else [] := rfl
  have hwb : tsV l p = (tfOk l && wtB p l.length) := by
    unfold tsV wtB
    congr 1
    rw [decide_eq_decide]
    omega
  obtain ⟨a, cap, rfl⟩ := hv.slice
  cases hok : tfOk l with
  | false =>
    rw [show (tfSz l.length && goodL l) = false from hok] at HS
    obtain ⟨e1, e2⟩ := no (by rw [hwb, hok]; rfl)
    rw [e1, e2]
    obtain ⟨n, hn⟩ : ∃ n, n = l.length := ⟨_, rfl⟩
    rw [← hn] at HS HW ⊢
    clear e1 e2 hok hv no hdef hwb hn
    go_enter Try.func22, Try.ntmps22
    go_wp2_with fail
    refine (HS.out).mono ?_
    rintro e w1 ⟨hb, ⟨h, _⟩ | ⟨_, rfl⟩⟩
    · cases h
    have HB := Lib.hid hb
    clear hb
    go_wp2_with fail
    refine (HW.out _).mono ?_
    rintro e w2 ⟨rfl, rfl⟩
    go_wp2_with fail
    go_returns
    exact ⟨_, rfl, OwnG.nil _ _, HB.out⟩
  | true =>
    rw [show (tfSz l.length && goodL l) = true from hok] at HS
    cases hwt : wtB p l.length with
    | false =>
      obtain ⟨e1, e2⟩ := no (by rw [hwb, hok, hwt]; rfl)
      rw [e1, e2]
      rw [hwt] at HW
      obtain ⟨n, hn⟩ : ∃ n, n = l.length := ⟨_, rfl⟩
      rw [← hn] at HS HW ⊢
      clear e1 e2 hok hv no hdef hwb hn hwt
      go_enter Try.func22, Try.ntmps22
      go_wp2_with fail
      refine (HS.out).mono ?_
      rintro e w1 ⟨hb, ⟨_, g, rfl, hr⟩ | ⟨h, _⟩⟩
      case inr => cases h
      have HB := Lib.hid hb
      clear hb hr
      go_wp2_with fail
      refine (HW.out _).mono ?_
      rintro e w2 ⟨rfl, rfl⟩
      go_wp2_with fail
      go_returns
      exact ⟨_, rfl, OwnG.nil _ _, HB.out⟩
    | true =>
      rw [hwt] at HW
      have hwt2 := of_decide_eq_true hwt
      have hws : wtOf p l.length = (tsS p : Int) := by
        unfold wtOf tsS
        rcases hwt2 with ⟨rfl, h⟩ | ⟨rfl, h⟩
        · rw [if_pos ⟨rfl, h⟩, if_pos rfl]; rfl
        · rw [if_neg (by omega), if_pos ⟨rfl, h⟩, if_neg (by omega)]; rfl
      rw [hws] at HW
      have e1 : tsOk l p = goodL (spL l (tsS p)) := by unfold tsOk; rw [hwb, hok, hwt]; rfl
      rw [hdef, e1]
      have hss : tsS p = 1 ∨ tsS p = 4 := by unfold tsS; split <;> simp
      have hlen := tfOk_len hok
      have hdv : l.length % (4 * tsS p) = 0 := by
        have hc := tfSz_cases (tfOk_sz hok)
        unfold tsS
        rcases hwt2 with ⟨rfl, h⟩ | ⟨rfl, h⟩
        · rw [if_pos rfl]; omega
        · rw [if_neg (by omega)]; omega
      have hfc := fbC_ok (gre l) (gim l) l.length (fun i hi => goodL_at (tfOk_good hok) i hi)
      have hup : upTo (fun i => (gre l i, gim l i)) l.length 1000000 := fun i hi => good_in (goodL_at (tfOk_good hok) i hi)
      have hspl : spL l (tsS p) = genG l.length (fun i => (stF 3 4 (tsS p) (fun i => (gre l i, gim l i)) i).1) (fun i => (stF 3 4 (tsS p) (fun i => (gre l i, gim l i)) i).2) :=
        genG_ext (fun i _ => by rw [sp_st l _ hss i]) (fun i _ => by rw [sp_st l _ hss i])
      obtain ⟨L, hL⟩ : ∃ L, L = spL l (tsS p) := ⟨_, rfl⟩
      rw [← hL] at hspl ⊢
      obtain ⟨S, hS⟩ : ∃ S, S = tsS p := ⟨_, rfl⟩
      rw [← hS] at HW hss hdv hspl
      obtain ⟨n, hnn⟩ : ∃ n, n = l.length := ⟨_, rfl⟩
      rw [← hnn] at HS HW hdv hfc hup hspl hlen ⊢
      obtain ⟨D, hD⟩ : ∃ D, D = fbC (gre l) (gim l) := ⟨_, rfl⟩
      rw [← hD] at HS hfc
      have HST := Lib.hid (fun (g B : Nat) (w' : World) (hr : RowC w' B g n D) => step_any 3 S n g B D (fun i => (gre l i, gim l i)) 1000000 (by omega) (by omega) hdv hlen.1 (by omega) (by decide) (by decide) (by decide) hup w' hr hfc)
      obtain ⟨T, hT⟩ : ∃ T, T = stF 3 4 S (fun i => (gre l i, gim l i)) := ⟨_, rfl⟩
      rw [show baW 3 = 4 from rfl, ← hT] at HST
      rw [← hT] at hspl
      have HLI := Lib.hid (fun (g B : Nat) E (w' : World) (h : ∀ i, i < n → FA (E i).1 (T i).1 ∧ FA (E i).2 (T i).2) (hr : RowC w' B g n E) => list_FA g n B E T h hlen.1 (by omega) w' hr)
      rw [← hspl] at HLI
      obtain ⟨L2, hL2⟩ : ∃ L2, L2 = (if goodL L then L else []) := ⟨_, rfl⟩
      obtain ⟨q2, hq2⟩ : ∃ q, q = goodL L := ⟨_, rfl⟩
      rw [← hL2, ← hq2] at HLI ⊢
      clear hv hok hwb hwt hwt2 hws e1 hdef no hss hdv hfc hup hspl hL hS hD hT hL2 hq2 hnn
      obtain ⟨hl1, hl2⟩ := hlen
      go_enter Try.func22, Try.ntmps22
      go_wp2_with fail
      refine (HS.out).mono ?_
      rintro e w1 ⟨hb, ⟨_, g, rfl, hr⟩ | ⟨h, _⟩⟩
      case inr => cases h
      have HB1 := Lib.hid hb
      have HR1 := Lib.hid hr
      clear hb hr
      go_wp2_with fail
      refine (HW.out _).mono ?_
      rintro e w2 ⟨rfl, rfl⟩
      go_wp2_with fail
      refine (HST.out _ _ _ HR1.out).mono ?_
      rintro e w2 ⟨g2, E2, rfl, hr2, hf2, hb2⟩
      have HB2 := Lib.hid (joins HB1.out hb2)
      have HR2 := Lib.hid hr2
      have HF2 := Lib.hid hf2
      clear hb2 hr2 hf2
      go_wp2_with fail
      refine (HLI.out _ _ _ _ HF2.out HR2.out).mono ?_
      rintro e w3 ⟨v3, rfl, ho3, hb3⟩
      have HB3 := Lib.hid (joins HB2.out hb3)
      have HO3 := Lib.hid (ho3.mono HB2.out.size)
      clear ho3 hb3
      go_wp2_with fail
      go_returns
      exact ⟨_, rfl, HO3.out, HB3.out⟩
end Go.Proofs.Ytgibdndckoapfaa
