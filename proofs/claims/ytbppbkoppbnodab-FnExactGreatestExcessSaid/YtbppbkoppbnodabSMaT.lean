/- The model's haCopy, haTurn, TurnRow, SwapRows, TurnedOver, TurnColumn. -/
import Derived.Test.YtbppbkoppbnodabSMaO
import Derived.Test.YtbppbkoppbnodabSMov
import Derived.Test.YtbppbkoppbnodabMaT
namespace Go.Proofs.Ytbppbkoppbnodab
set_option maxRecDepth 100000
open Go.RowKit

set_option maxRecDepth 100000 in
set_option maxHeartbeats 2000000 in
theorem haCopy_any (v : Value) (m : List (List Int)) (w : World) (hv : IR w v m) (h8 : m.length ≤ 1048576) (hlen : ∀ i, i < m.length → (m.getD i []).length ≤ 1048576) : Calls Try.prog 51 #[v] w (MakesR w m) := by
  obtain ⟨a, cap, rfl⟩ := hv.slice
  have HV := Lib.hid hv
  have HL := Lib.hid hlen
  clear hv hlen
  go_enter Try.func51, Try.ntmps51
  go_wp2_with fail
  go_loopw [8, 3] (fun x o wr => ∃ j : Nat, j ≤ m.length ∧ x = .int .i64 j ∧ OwnR wr w.heap.size o (m.take j) ∧ Below w.heap.size w wr) (fun x _ _ => m.length - (intOf x).toNat)
  case atStart => exact ⟨0, Nat.zero_le _, rfl, OwnR.nil _ _, by go_grown⟩
  case round =>
    obtain ⟨j, hj, rfl, hown, hbel⟩ := hrel
    have HB := Lib.hid hbel
    have HO := Lib.hid hown
    clear hown hbel
    by_cases hlt : j < m.length
    · have h0 : (0 : Int) ≤ (j : Int) := by omega
      have h1 : (j : Int) < (m.length : Int) := by omega
      obtain ⟨-, b, off, u, rfl, c1, hu⟩ := (HV.out.below HB.out).at j hlt
      have hl1 := HL.out j hlt
      have hts : m.take (j + 1) = m.take j ++ [m.getD j []] := by rw [List.take_succ_eq_append_getElem hlt, getD_at m j hlt]
      obtain ⟨l, hl⟩ : ∃ l, l = m.getD j [] := ⟨_, rfl⟩
      rw [← hl] at hu hl1 hts
      have HT := Lib.hid hts
      have HOW := Lib.hid (l1Own_any u l wr hu hl1)
      have HGL := Lib.hid (show (m.take j).length ≤ 1048576 by rw [List.length_take]; omega)
      clear hl hu hl1 hts
      go_wp2_with (first
        | (go_at_call 69; refine (HOW.out).mono ?_; rintro e w2 ⟨r, rfl, hor, hb2⟩; obtain ⟨ra, rc, hre⟩ := hor.is.sl; subst hre; have HOR := Lib.hid hor; have HB2 := Lib.hid hb2; clear hor hb2)
        | (at_builtin; refine wpList_pushR rfl _ _ rfl w.heap.size _ (m.take j) rfl wr HO.out (HB2.out.alloc HB2.out.size _) w2.heap.size 1 _ l rfl (by simp) (HOR.out.alloc _) HGL.out w.heap.size w (belowa (joins HB.out HB2.out) _) (Nat.le_refl _) HB.out.size (by have := HB.out.size; have := HB2.out.size; simp; omega) ?_; intro v3 w3 ho3 hb3))
      go_roundw
      case rel => exact ⟨j + 1, by omega, by go_num, by rw [HT.out]; assumption, by assumption⟩
      case measure => simp [intOf]; omega
    · have he : j = m.length := by omega
      subst he
      have hO := HO.out
      rw [List.take_length] at hO
      have HO2 := Lib.hid hO
      clear hO
      go_wp2_with fail
      go_returns
      exact ⟨_, rfl, HO2.out, HB.out⟩

end Go.Proofs.Ytbppbkoppbnodab
