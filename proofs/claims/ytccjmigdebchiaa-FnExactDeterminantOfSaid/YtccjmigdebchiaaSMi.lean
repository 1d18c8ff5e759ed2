/- The model's haMinor. -/
import Derived.Test.YtccjmigdebchiaaGMi
namespace Go.Proofs.Ytccjmigdebchiaa
set_option maxRecDepth 100000
open Go.RowKit

set_option maxRecDepth 100000 in
set_option maxHeartbeats 2000000 in
theorem haMinor_any (B : Nat) (v : Value) (m : List (List (Int × Int))) (j : Nat) (w : World) (hv : OwnRG w B v m) (h1 : 1 ≤ m.length) (h5 : m.length ≤ 5) (hr : ∀ i, i < m.length → (m.getD i []).length = m.length) (hj : j < m.length) :
    Calls Try.prog 42 #[v, .int .i64 j] w (MakesRG w (miG j m)) := by
  obtain ⟨g, cap, -, rfl, hc1, hc2, -⟩ := hv.at 0 (by omega)
  have HAT := Lib.hid (fun (w' : World) (hb : Below w.heap.size w w') i (hi : i < m.length) => show ∃ u, w'.cell? ⟨g, i, none⟩ = some u ∧ OwnG w' B u (m.getD i []) by
    obtain ⟨g', cap', u, he, -, -, hc, ho⟩ := (hv.below hb).at i hi
    simp only [Value.slice.injEq, Option.some.injEq, Addr.mk.injEq, and_true] at he
    obtain ⟨rfl, -⟩ := he
    exact ⟨u, hc, ho⟩)
  have HR := Lib.hid hr
  have HM := Lib.hid (fun i h => miG_take j m i h)
  have HML := Lib.hid (miG_length j m)
  obtain ⟨n, hn⟩ : ∃ n, m.length = n + 1 := ⟨m.length - 1, by omega⟩
  rw [hn] at HAT HR HM HML hj hc1 ⊢
  have h0 : (1 : Int) ≤ (n : Int) + 1 := by omega
  have h2 : (n : Int) + 1 ≤ (cap : Int) := by omega
  have h3 : (1 : Int) ≤ (cap : Int) := by omega
  have h4 : (cap : Int) ≤ 9223372036854775807 := by have := maxLen_val; omega
  have hn4 : n ≤ 4 := by omega
  have HN := Lib.hid hn
  clear hv hr hn h1 h5 hc2
  go_enter Try.func42, Try.ntmps42
  go_wp2_with fail
  case inl =>
    obtain rfl : n = 0 := by omega
    go_loopw [12, 5] (fun x o wr => ∃ i : Nat, i ≤ 0 ∧ x = .int .i64 i ∧ OwnRG wr w.heap.size o [] ∧ Below w.heap.size w wr) (fun x _ _ => 0 - (intOf x).toNat)
    case atStart => exact ⟨0, Nat.zero_le _, rfl, OwnRG.nil _ _, Below.refl _ _⟩
    case round =>
      obtain ⟨i, hi, rfl, hown, hbel⟩ := hrel
      have HB := Lib.hid hbel
      have HO := Lib.hid hown
      obtain rfl : i = 0 := by omega
      have HE := Lib.hid (show miG j m = [] from List.length_eq_zero_iff.1 (by rw [HML.out]))
      clear hown hbel
      go_wp2_with fail
      go_returns
      exact ⟨_, rfl, by rw [HE.out]; exact HO.out, HB.out⟩
  case inr hcap =>
    go_loopw [12, 5] (fun x o wr => ∃ i : Nat, i ≤ n ∧ x = .int .i64 i ∧ OwnRG wr w.heap.size o ((miG j m).take i) ∧ Below w.heap.size w wr) (fun x _ _ => n - (intOf x).toNat)
    case atStart => exact ⟨0, Nat.zero_le _, rfl, OwnRG.nil _ _, Below.refl _ _⟩
    case round =>
      obtain ⟨i, hi, rfl, hown, hbel⟩ := hrel
      have HB := Lib.hid hbel
      have HO := Lib.hid hown
      clear hown hbel
      by_cases hlt : i < n
      · have h0i : (0 : Int) ≤ (i : Int) := by omega
        have h1i : (i : Int) < (n : Int) := by omega
        have HT := Lib.hid (HM.out i (by omega))
        obtain ⟨u, c1, hu⟩ := HAT.out wr HB.out (i + 1) (by omega)
        have hlen := HR.out (i + 1) (by omega)
        obtain ⟨l, hl⟩ : ∃ l, l = m.getD (i + 1) [] := ⟨_, rfl⟩
        rw [← hl] at hu hlen HT
        obtain ⟨gr, cr, rfl, hl1, hl2, hcl⟩ := hu.parts (by omega)
        rw [hlen] at c1 hl1
        rw [Nat.add_comm i 1] at c1
        have HCT := Lib.hid (fun q u (hq : (fl (l.take j))[q]? = some u) => show wr.cell? ⟨gr, q, none⟩ = some u from hcl q u (by
          rw [fl_take, List.getElem?_take] at hq
          split at hq
          · exact hq
          · cases hq))
        have HCD := Lib.hid (fun q u (hq : (fl (l.drop (j + 1)))[q]? = some u) => show wr.cell? ⟨gr, (j + 1) * 2 + q, none⟩ = some u from hcl _ u (by
          rw [fl_drop, List.getElem?_drop] at hq
          exact hq))
        have HLT := Lib.hid (show j = (l.take j).length by rw [List.length_take, hlen]; omega)
        have HLD := Lib.hid (show n - j = (l.drop (j + 1)).length by rw [List.length_drop, hlen]; omega)
        have HGL := Lib.hid (show ((miG j m).take i).length ≤ 1048576 by rw [List.length_take]; omega)
        have h0j : (0 : Int) ≤ (j : Int) := by omega
        have h1j : (j : Int) ≤ (cr : Int) := by omega
        have h2j : (j : Int) + 1 ≤ (cr : Int) := by omega
        have h3j : (j : Int) + 1 ≤ (n : Int) + 1 := by omega
        have h4c : (cr : Int) ≤ 9223372036854775807 := by have := maxLen_val; omega
        have h5c : (n : Int) + 1 ≤ (cr : Int) := by omega
        have hwj : wrap64 ((j : Int) + 1) = (j : Int) + 1 := IntWalk.wrap64_in _ ⟨by omega, by omega⟩
        obtain ⟨l1, hl1'⟩ : ∃ l1, l1 = l.take j := ⟨_, rfl⟩
        obtain ⟨l2, hl2'⟩ : ∃ l2, l2 = l.drop (j + 1) := ⟨_, rfl⟩
        rw [← hl1', ← hl2'] at HT
        rw [← hl1'] at HCT HLT
        rw [← hl2'] at HCD HLD
        clear hu hl hcl hl1 hl2 hl1' hl2' 
        have C1 := Lib.hid (fun q u (h : (fl l1)[q]? = some u) => show (wr.alloc (.cells #[] 25)).cell? ((⟨gr, 0, none⟩ : Addr).add q) = some u by
          rw [Addr.add_lit, Nat.zero_add]
          exact keepc (belowa (Below.refl _ _) _) (HCT.out q u h))
        by_cases hcj : cr = j + 1
        all_goals
          go_wp2_with (first
            | (at_builtin; refine wpList_partG rfl _ _ rfl wr.heap.size _ [] l1 rfl (OwnG.fresh wr _ (Nat.le_refl _)) ⟨gr, 0, none⟩ j _ rfl HLT.out C1.out (by have := HLT.out; simp; omega) wr.heap.size wr (belowa (Below.refl _ _) _) (Nat.le_refl _) (by simp) (by simp) ?_; intro r1 w2 ho1 hb2 hnl1; have HO1 := Lib.hid (show OwnG w2 wr.heap.size r1 l1 from ho1); have HB2 := Lib.hid hb2; clear ho1 hb2 hnl1)
            | (at_builtin; (try rw [if_neg hcj]); refine wpList_partG rfl _ _ rfl wr.heap.size _ l1 l2 rfl HO1.out ⟨gr, (j + 1) * 2, none⟩ (n - j) _ rfl HLD.out (fun q u h => by rw [Addr.add_lit]; exact keepc HB2.out (HCD.out q u h)) (by have := HLT.out; have := HLD.out; omega) wr.heap.size wr HB2.out (Nat.le_refl _) HB2.out.size HB2.out.size ?_; intro r2 w3 ho2 hb3 hnl2; obtain ⟨ra, rc, hre⟩ := ho2.is.slice; subst hre; have HO2 := Lib.hid ho2; have HB3 := Lib.hid hb3; clear ho2 hb3 hnl2)
            | (at_builtin; (try rw [if_pos hcj]); refine wpList_partG rfl _ _ rfl wr.heap.size _ l1 l2 rfl HO1.out ⟨gr, 0, none⟩ (n - j) _ rfl HLD.out (fun q u h => by have e := List.length_eq_zero_iff.1 (show l2.length = 0 by have := HLD.out; omega); rw [e] at h; cases h) (by have := HLT.out; have := HLD.out; omega) wr.heap.size wr HB2.out (Nat.le_refl _) HB2.out.size HB2.out.size ?_; intro r2 w3 ho2 hb3 hnl2; obtain ⟨ra, rc, hre⟩ := ho2.is.slice; subst hre; have HO2 := Lib.hid ho2; have HB3 := Lib.hid hb3; clear ho2 hb3 hnl2)
            | (at_builtin; refine wpList_pushRG rfl _ _ rfl w.heap.size _ ((miG j m).take i) rfl wr HO.out (HB3.out.alloc HB3.out.size _) w3.heap.size 1 _ (l1 ++ l2) rfl (by simp) (HO2.out.alloc _) HGL.out w.heap.size w (belowa (joins HB.out HB3.out) _) (Nat.le_refl _) HB.out.size (by have := HB.out.size; have := HB3.out.size; simp; omega) ?_; intro v3 w4 ho4 hb4; have HO4 := Lib.hid ho4; have HB4 := Lib.hid hb4; clear ho4 hb4))
          go_roundw
          case rel => exact ⟨i + 1, by omega, by go_num, by rw [HT.out]; exact HO4.out, HB4.out⟩
          case measure => simp [intOf]; omega
      · obtain rfl : i = n := by omega
        have hO := HO.out
        rw [List.take_of_length_le (by rw [HML.out]; omega)] at hO
        have HO2 := Lib.hid hO
        clear hO
        go_wp2_with fail
        go_returns
        exact ⟨_, rfl, HO2.out, HB.out⟩
end Go.Proofs.Ytccjmigdebchiaa
