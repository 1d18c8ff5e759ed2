/- The model's haCopy, haTurn, TurnRow, SwapRows, TurnedOver, TurnColumn. -/
import Derived.Test.YtbppbkoppbnodaaSMaO
import Derived.Test.YtbppbkoppbnodaaSMov
import Derived.Test.YtbppbkoppbnodaaMaT
namespace Go.Proofs.Ytbppbkoppbnodaa
set_option maxRecDepth 100000
open Go.RowKit

set_option maxRecDepth 100000 in
set_option maxHeartbeats 2000000 in
theorem haCopy_any (v : Value) (m : List (List Int)) (w : World) (hv : IR w v m) (h8 : m.length ≤ 1048576) (hlen : ∀ i, i < m.length → (m.getD i []).length ≤ 1048576) : Calls Try.prog 55 #[v] w (MakesR w m) := by
  obtain ⟨a, cap, rfl⟩ := hv.slice
  have HV := Lib.hid hv
  have HL := Lib.hid hlen
  clear hv hlen
  go_enter Try.func55, Try.ntmps55
  go_wp2_with fail
  go_loopw [8, 3] (fun x o wr => ∃ j : Nat, j ≤ m.length ∧ x = .int .i64 j ∧ OwnR wr w.heap.size o (m.take j) ∧ Below w.heap.size w wr) (fun x _ _ => m.length - (intOf x).toNat)
  case atStart => exact ⟨0, Nat.zero_le _, rfl, OwnR.nil _ _, by go_grown⟩
  case round =>
    obtain ⟨j, hj, rfl, hown, hbel⟩ := hrel
    have HB := Lib.hid hbel
    have HO := Lib.hid hown
    clear hown hbel
    by_cases hlt : j < m.length
    · have h0 : (0 : Int) ≤ (j : Int) := by omega
      have h1 : (j : Int) < (m.length : Int) := by omega
      obtain ⟨-, b, off, u, rfl, c1, hu⟩ := (HV.out.below HB.out).at j hlt
      have hl1 := HL.out j hlt
      have hts : m.take (j + 1) = m.take j ++ [m.getD j []] := by rw [List.take_succ_eq_append_getElem hlt, getD_at m j hlt]
      obtain ⟨l, hl⟩ : ∃ l, l = m.getD j [] := ⟨_, rfl⟩
      rw [← hl] at hu hl1 hts
      have HT := Lib.hid hts
      have HOW := Lib.hid (l1Own_any u l wr hu hl1)
      have HGL := Lib.hid (show (m.take j).length ≤ 1048576 by rw [List.length_take]; omega)
      clear hl hu hl1 hts
      go_wp2_with (first
        | (go_at_call 56; refine (HOW.out).mono ?_; rintro e w2 ⟨r, rfl, hor, hb2⟩; obtain ⟨ra, rc, hre⟩ := hor.is.sl; subst hre; have HOR := Lib.hid hor; have HB2 := Lib.hid hb2; clear hor hb2)
        | (at_builtin; refine wpList_pushR rfl _ _ rfl w.heap.size _ (m.take j) rfl wr HO.out (HB2.out.alloc HB2.out.size _) w2.heap.size 1 _ l rfl (by simp) (HOR.out.alloc _) HGL.out w.heap.size w (belowa (joins HB.out HB2.out) _) (Nat.le_refl _) HB.out.size (by have := HB.out.size; have := HB2.out.size; simp; omega) ?_; intro v3 w3 ho3 hb3))
      go_roundw
      case rel => exact ⟨j + 1, by omega, by go_num, by rw [HT.out]; assumption, by assumption⟩
      case measure => simp [intOf]; omega
    · have he : j = m.length := by omega
      subst he
      have hO := HO.out
      rw [List.take_length] at hO
      have HO2 := Lib.hid hO
      clear hO
      go_wp2_with fail
      go_returns
      exact ⟨_, rfl, HO2.out, HB.out⟩

set_option maxRecDepth 100000 in
set_option maxHeartbeats 2000000 in
theorem haTurn_any (v : Value) (m : List (List Int)) (i : Nat) (k : Int) (w : World) (hv : IR w v m) (hok : maOk m = true) (hi : i < m.length) (hk1 : -1000 ≤ k) (hk2 : k ≤ 1000) : Calls Try.prog 51 #[v, .int .i64 i, .int .i64 k] w (MakesR w (trM m i k)) := by
  obtain ⟨a, cap, rfl⟩ := hv.slice
  have h8 := maOk_le hok
  have HC := Lib.hid (haCopy_any _ m w hv (by omega) (fun j hj => by rw [maOk_sq hok j hj]; omega))
  have HV := Lib.hid hv
  have hs := maOk_seq hok i hi
  have HS := Lib.hid hs
  clear hv hok hs
  unfold trM
  obtain ⟨l, hl⟩ : ∃ l, l = turnG (m.getD i []) k := ⟨_, rfl⟩
  rw [← hl]
  have HLD := Lib.hid hl
  clear hl
  have h0 : (0 : Int) ≤ (i : Int) := by omega
  have h1 : (i : Int) < (m.length : Int) := by omega
  go_enter Try.func51, Try.ntmps51
  go_wp2_with fail
  refine (HC.out).mono ?_
  rintro e w1 ⟨v1, rfl, ho1, hb1⟩
  obtain ⟨g, cap1, rfl, hg1, hg2⟩ := ho1.shape (by omega)
  obtain ⟨-, b, off, u, rfl, c1, hu⟩ := (HV.out.below hb1).at i hi
  have HT := Lib.hid (phTurn_any u _ k w1 hu HS.out hk1 hk2)
  rw [← HLD.out] at HT
  have HO1 := Lib.hid ho1
  have HB1 := Lib.hid hb1
  clear hu ho1 hb1
  go_wp2_with fail
  refine (HT.out).mono ?_
  rintro e w2 ⟨r, rfl, hor, hb2⟩
  obtain ⟨ra, rc, rfl⟩ := hor.is.sl
  have hown2 := HO1.out.below hb2
  obtain ⟨old, c2, c3, hio⟩ := hown2.cellAt rfl i hi
  obtain ⟨oa, oc, rfl⟩ := hio.sl
  have HO := Lib.hid (HO1.out.stored rfl hb2 HB1.out.size hor i hi)
  have HB := Lib.hid ((joins HB1.out hb2).setCell (p := ⟨g, i, none⟩) hg1 (.slice ra l.length rc))
  clear hio hown2 hor hb2
  go_wp2_with fail
  go_returns
  exact ⟨_, rfl, HO.out, HB.out⟩
end Go.Proofs.Ytbppbkoppbnodaa
