/- The program's transformOf and TransformOf. -/
import Derived.Test.YtjoepdflbbcliacITr
import Derived.Test.YtjoepdflbbcliacISg
import Derived.Test.YtjoepdflbbcliacISl
import Derived.Test.YtjoepdflbbcliacToM
namespace Go.Proofs.Ytjoepdflbbcliac
set_option maxRecDepth 100000
open Go.RowKit

/-- The numbers of a row of sums, as a list: fails where a sum is no Gaussian number, rounded or not. -/
theorem list_FA (g n : Nat) (B : Nat) (E : Nat → Nat × Nat) (Z : Nat → Int × Int) (h : ∀ i, i < n → FA (E i).1 (Z i).1 ∧ FA (E i).2 (Z i).2) (h1 : 1 ≤ n) (h32 : n ≤ 32) (w : World) (hr : RowC w B g n E) :
    Calls Try.prog 59 #[.slice (some ⟨g, 0, none⟩) n n] w (MakesGB w (if goodL (genG n (fun i => (Z i).1) (fun i => (Z i).2)) then genG n (fun i => (Z i).1) (fun i => (Z i).2) else []) (goodL (genG n (fun i => (Z i).1) (fun i => (Z i).2)))) := by
  have hx : ∀ i, i < n → ∃ r s, floatToIntVal .f32 (E i).1 .i64 = some r ∧ floatToIntVal .f32 (E i).2 .i64 = some s ∧ good r s = good (Z i).1 (Z i).2 ∧ (good r s = true → r = (Z i).1 ∧ s = (Z i).2) := fun i hi => by
    obtain ⟨r, e1, a1, a2⟩ := FA_toInt (h i hi).1
    obtain ⟨s, e2, b1, b2⟩ := FA_toInt (h i hi).2
    refine ⟨r, s, e1, e2, ?_, fun hg => ?_⟩
    · unfold good
      rw [decide_eq_decide]
      by_cases c1 : (Z i).1.natAbs < 16777216
      · rw [a1 c1]
        by_cases c2 : (Z i).2.natAbs < 16777216
        · rw [b1 c2]
        · have := b2 (by omega); omega
      · have := a2 (by omega); omega
    · have hg := good_in hg
      by_cases c1 : (Z i).1.natAbs < 16777216
      · by_cases c2 : (Z i).2.natAbs < 16777216
        · exact ⟨a1 c1, b1 c2⟩
        · have := b2 (by omega); omega
      · have := a2 (by omega); omega
  have hl := list_any g n B E (fun i => (floatToIntVal .f32 (E i).1 .i64).getD 0) (fun i => (floatToIntVal .f32 (E i).2 .i64).getD 0) (fun i hi => by
    obtain ⟨r, s, e1, e2, -, -⟩ := hx i hi
    simp only [e1, e2, Option.getD_some, and_self]) h1 h32 w hr
  have hg : goodL (genG n (fun i => (floatToIntVal .f32 (E i).1 .i64).getD 0) (fun i => (floatToIntVal .f32 (E i).2 .i64).getD 0)) = goodL (genG n (fun i => (Z i).1) (fun i => (Z i).2)) := by
    unfold goodL genG
    rw [List.all_map, List.all_map]
    rw [Bool.eq_iff_iff, List.all_eq_true, List.all_eq_true]
    constructor
    · intro H i hi
      obtain ⟨r, s, e1, e2, e3, -⟩ := hx i (List.mem_range.1 hi)
      have := H i hi
      simp only [Function.comp, e1, e2, Option.getD_some] at this ⊢
      rw [← e3]; exact this
    · intro H i hi
      obtain ⟨r, s, e1, e2, e3, -⟩ := hx i (List.mem_range.1 hi)
      have := H i hi
      simp only [Function.comp, e1, e2, Option.getD_some] at this ⊢
      rw [e3]; exact this
  rw [hg] at hl
  cases hq : goodL (genG n (fun i => (Z i).1) (fun i => (Z i).2)) with
  | false =>
    rw [hq, if_neg Bool.false_ne_true] at hl
    rw [if_neg Bool.false_ne_true]
    exact hl
  | true =>
    have he : genG n (fun i => (floatToIntVal .f32 (E i).1 .i64).getD 0) (fun i => (floatToIntVal .f32 (E i).2 .i64).getD 0) = genG n (fun i => (Z i).1) (fun i => (Z i).2) := by
      have hG := hq
      unfold goodL genG at hG
      rw [List.all_map, List.all_eq_true] at hG
      have key : ∀ i, i < n → (floatToIntVal .f32 (E i).1 .i64).getD 0 = (Z i).1 ∧ (floatToIntVal .f32 (E i).2 .i64).getD 0 = (Z i).2 := fun i hi => by
        obtain ⟨r, s, e1, e2, e3, e4⟩ := hx i hi
        have hgi : good (Z i).1 (Z i).2 = true := hG i (List.mem_range.2 hi)
        rw [← e3] at hgi
        rw [e1, e2]
        exact e4 hgi
      exact genG_ext (fun i hi => (key i hi).1) (fun i hi => (key i hi).2)
    rw [hq, if_pos rfl, he] at hl
    rw [if_pos rfl]
    exact hl

set_option maxRecDepth 100000 in
set_option maxHeartbeats 2000000 in
theorem transformOf_any (wv K : Nat) (q : Bool) (v : Value) (l : List (Int × Int)) (hw : wv ≤ 3) (hf : ∀ w, Calls Try.prog 65 #[.int .i64 wv, .int .i64 l.length] w (Pure w (.bool q))) (hq : q = true → l.length = baW wv ^ K ∧ 1 ≤ l.length ∧ l.length ≤ 32) (w : World) (hv : IG w v l)
    (L : List (Int × Int)) (hL : q = true → L = genG l.length (fun i => (trF wv (baW wv) K (fun i => (gre l i, gim l i)) i).1) (fun i => (trF wv (baW wv) K (fun i => (gre l i, gim l i)) i).2)) :
    Calls Try.prog 39 #[.int .i64 wv, v] w (MakesGB w (if (q && goodL l) && goodL L then L else []) ((q && goodL l) && goodL L)) := by
  have HS := Lib.hid (signalOf_any wv q v l hf (fun h => (hq h).2) w hv)
  cases hok : (q && goodL l) with
  | false =>
    rw [hok] at HS
    rw [Bool.false_and, if_neg Bool.false_ne_true]
    clear hq hf hv hL hok
    go_enter Try.func39, Try.ntmps39
    go_wp2_with fail
    refine (HS.out).mono ?_
    rintro e w1 ⟨hb, ⟨h, _⟩ | ⟨_, rfl⟩⟩
    · cases h
    have HB := Lib.hid hb
    clear hb
    go_wp2_with fail
    go_returns
    exact ⟨_, rfl, OwnG.nil _ _, HB.out⟩
  | true =>
    rw [hok] at HS
    rw [Bool.true_and]
    have hqt := (Bool.and_eq_true_iff.1 hok).1
    have hgl := (Bool.and_eq_true_iff.1 hok).2
    obtain ⟨hn, hn1, hn32⟩ := hq hqt
    have hL := hL hqt
    have hfc := fbC_ok (gre l) (gim l) l.length (fun i hi => goodL_at hgl i hi)
    have hup : upTo (fun i => (gre l i, gim l i)) l.length 1000000 := fun i hi => good_in (goodL_at hgl i hi)
    obtain ⟨n, hnn⟩ : ∃ n, n = l.length := ⟨_, rfl⟩
    rw [← hnn] at HS hn hn1 hn32 hL hfc hup
    obtain ⟨D, hD⟩ : ∃ D, D = fbC (gre l) (gim l) := ⟨_, rfl⟩
    rw [← hD] at HS hfc
    have HTR := Lib.hid (fun (g B : Nat) (w' : World) (hr : RowC w' B g n D) => transform_any wv n K g B D (fun i => (gre l i, gim l i)) hw hn hn32 hup w' hr hfc)
    obtain ⟨T, hT⟩ : ∃ T, T = trF wv (baW wv) K (fun i => (gre l i, gim l i)) := ⟨_, rfl⟩
    rw [← hT] at HTR hL
    have HLI := Lib.hid (fun (g B : Nat) E (w' : World) (h : ∀ i, i < n → FA (E i).1 (T i).1 ∧ FA (E i).2 (T i).2) (hr : RowC w' B g n E) => list_FA g n B E T h hn1 hn32 w' hr)
    rw [← hL] at HLI
    obtain ⟨L2, hL2⟩ : ∃ L2, L2 = (if goodL L then L else []) := ⟨_, rfl⟩
    obtain ⟨q2, hq2⟩ : ∃ q, q = goodL L := ⟨_, rfl⟩
    rw [← hL2, ← hq2] at HLI ⊢
    clear hf hq hv hok hqt hgl hn hL hfc hup hD hT hL2 hq2 hnn
    go_enter Try.func39, Try.ntmps39
    go_wp2_with fail
    refine (HS.out).mono ?_
    rintro e w1 ⟨hb, ⟨_, g, rfl, hr⟩ | ⟨h, _⟩⟩
    case inr => cases h
    have HB1 := Lib.hid hb
    have HR1 := Lib.hid hr
    clear hb hr
    go_wp2_with fail
    refine (HTR.out _ _ _ HR1.out).mono ?_
    rintro e w2 ⟨g2, E2, rfl, hr2, hf2, hb2⟩
    have HB2 := Lib.hid (joins HB1.out hb2)
    have HR2 := Lib.hid hr2
    have HF2 := Lib.hid hf2
    clear hb2 hr2 hf2
    go_wp2_with fail
    refine (HLI.out _ _ _ _ HF2.out HR2.out).mono ?_
    rintro e w3 ⟨v3, rfl, ho3, hb3⟩
    have HB3 := Lib.hid (joins HB2.out hb3)
    have HO3 := Lib.hid (ho3.mono HB2.out.size)
    clear ho3 hb3
    go_wp2_with fail
    go_returns
    exact ⟨_, rfl, HO3.out, HB3.out⟩
end Go.Proofs.Ytjoepdflbbcliac
