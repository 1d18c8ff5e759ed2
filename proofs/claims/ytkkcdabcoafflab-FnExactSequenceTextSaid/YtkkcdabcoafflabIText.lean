/- SequenceText: the program's. -/
import Derived.Test.YtkkcdabcoafflabSText
import Derived.Laws.IdiomStrings
namespace Go.Proofs.Ytkkcdabcoafflab
open Go.RowKit

def byteCell (b : UInt8) : Value := .int .u8 (b.toNat : Int)
theorem infoByte : (Try.prog.info? 5).map (fun i => (i.zero, i.size, i.bytes)) = some (some (.int .u8 0), 1, 1) := by kernel_rfl
theorem made_bytes (n : Nat) : (madeCells #[Value.int .u8 0] n).toList = (List.replicate n (0 : UInt8)).map byteCell := by
  apply List.ext_getElem
  · simp [madeCells]
  · intro i h1 h2
    simp [madeCells, Nat.mod_one, byteCell]
theorem text_at (l : List Int) (j : Nat) (hj : j < l.length) : (((l.take j).map letter ++ List.replicate (l.length - j) (0 : UInt8)).map byteCell)[j]? = some (.int .u8 0) := by
  have ht : ((l.take j).map letter).length = j := by simp; omega
  rw [List.getElem?_map, List.getElem?_append_right (by omega), ht, Nat.sub_self, List.getElem?_replicate, if_pos (by omega)]
  rfl
theorem text_set (l : List Int) (j : Nat) (hj : j < l.length) : (((l.take j).map letter ++ List.replicate (l.length - j) (0 : UInt8)).map byteCell).set j (byteCell (letter (l.getD j 0))) = ((l.take (j + 1)).map letter ++ List.replicate (l.length - (j + 1)) (0 : UInt8)).map byteCell := by
  have ht : ((l.take j).map letter).length = j := by simp; omega
  rw [← List.map_set]
  congr 1
  rw [List.set_append_right _ _ (by rw [ht]; exact Nat.le_refl _), ht, Nat.sub_self, List.take_succ_eq_append_getElem hj]
  rw [show l.length - j = (l.length - (j + 1)) + 1 by omega, List.replicate_succ, List.set_cons_zero, List.map_append, List.append_assoc]
  simp [List.getD, List.getElem?_eq_getElem hj]

set_option maxHeartbeats 1000000 in
theorem itext (v : Value) (l : List Int) (w : World) (hv : IS w v l) (hl : l.length ≤ 1048576) : Calls Try.prog 28 #[v] w (Ret w (.tuple #[.string (txt l), .bool (isSeq l)])) := by
  by_cases hn : l = []
  · subst hn
    obtain ⟨a, cap, rfl⟩ : ∃ a cap, v = .slice a 0 cap := by
      rcases hv with ⟨_, a, cap, rfl⟩ | ⟨h, _⟩
      · exact ⟨_, _, rfl⟩
      · exact absurd rfl h
    rw [txt_nil, isSeq_nil]
    go_enter Try.func28, Try.ntmps28
    go_wp2_with fail
    refine (isSequence_any _ [] _ hv hl).mono ?_
    rintro e w1 ⟨rfl, hb1⟩
    rw [isSeq_nil]
    go_wp2_with fail
    go_returns
    exact ⟨rfl, hb1⟩
  · by_cases hs : isSeq l = true
    · obtain ⟨i0, hi, hz0, hz1, hz2⟩ := info_parts infoByte
      rw [txt_some hs hn, hs]
      have h32 := isSeq_len hs
      have hpos : 0 < l.length := List.length_pos_iff.2 hn
      have hvv := hv
      obtain ⟨a, cap, rfl⟩ : ∃ a cap, v = .slice a l.length cap := by
        rcases hv with ⟨rfl, a, cap, rfl⟩ | ⟨_, b, off, cap, rfl, _⟩ <;> exact ⟨_, _, rfl⟩
      have HV := Lib.hid hvv
      have HS := Lib.hid hs
      clear hvv hv hs hn
      go_enter Try.func28, Try.ntmps28
      go_wp2_with fail
      refine (isSequence_any _ l _ HV.out hl).mono ?_
      rintro e w1 ⟨rfl, hb1⟩
      rw [HS.out]
      have HB1 := Lib.hid hb1
      clear hb1
      go_wp2_with (at_make; refine wpList_make_full _ rfl _ _ 57 rfl w1.heap.size 5 i0 (.int .u8 0) 1 Try.underlying57 hi hz0 hz1 _ _ _ _ l.length rfl rfl rfl rfl ?b2 ?b3 (Nat.le_refl _) ?_)
      case b2 => rw [hz2]; omega
      case b3 => unfold maxLen; omega
      intro w0 hown0 hgrow0
      rw [made_bytes] at hown0
      have HO0 := Lib.hid hown0
      have HG0 := Lib.hid hgrow0
      clear hown0 hgrow0
      go_wp2_with fail
      go_loopw [18] (fun i wr => ∃ k : Nat, k ≤ l.length ∧ i = .int .i64 k ∧ wr.ownsRow w1.heap.size 5 1 (.slice (some ⟨w1.heap.size, 0, none⟩) l.length l.length) l.length (((l.take k).map letter ++ List.replicate (l.length - k) (0 : UInt8)).map byteCell) ∧ Below w1.heap.size w1 wr) (fun i _ => l.length - (intOf i).toNat)
      case atStart => exact ⟨0, Nat.zero_le _, rfl, by simpa using HO0.out, (Below.refl _ _).grown HG0.out (Nat.le_refl _) (fun k h => by cases h)⟩
      case round =>
        obtain ⟨k, hk, rfl, hown, hbel⟩ := hrel
        have HO := Lib.hid hown
        have HB := Lib.hid hbel
        by_cases hlt : k < l.length
        · rcases ((HV.out.below HB1.out).below hbel) with ⟨h0, _⟩ | ⟨_, b, off, cap', hveq, _, hc⟩
          · rw [h0] at hlt; exact absurd hlt (Nat.not_lt_zero _)
          · simp only [Value.slice.injEq] at hveq
            obtain ⟨rfl, _, rfl⟩ := hveq
            have c1 := hc k hlt
            have c2 : wr.cell? ⟨w1.heap.size, k, none⟩ = some (.int .u8 0) := by
              rw [hown.cellAt k (by omega)]
              exact text_at l k hlt
            have c3 := hown.frozenAt k
            clear hc hown hbel
            have hx2 := allIn_getD (isSeq_all HS.out) k hlt
            have hst := text_set l k hlt
            obtain ⟨x, hx⟩ : ∃ x, x = l.getD k 0 := ⟨_, rfl⟩
            rw [← hx] at c1 hx2 hst
            have hsto := (HO.out.stored k (byteCell (letter x))).1
            rw [hst] at hsto
            have HT := Lib.hid hsto
            have h0 : (0 : Int) ≤ (k : Int) := by omega
            have h1 : (k : Int) < (l.length : Int) := by omega
            have hk4 : x = 0 ∨ x = 1 ∨ x = 2 ∨ x = 3 := by omega
            clear hx hx2 hst hsto
            rcases hk4 with rfl | rfl | rfl | rfl
            all_goals
              go_wp2_with fail
              go_roundw
              case rel =>
                exact ⟨k + 1, by omega, by go_num, HT.out, HB.out.setCell (Nat.le_refl _) _⟩
              case measure => simp [intOf]; omega
        · have he : k = l.length := by omega
          subst he
          have hconv : (convert 57 9 (.slice (some ⟨w1.heap.size, 0, none⟩) l.length l.length)).run Try.prog wr = .ok (.string (letters l)) wr := by
            have := run_convert_bytes_back (P := Try.prog) wr 57 9 5 ⟨w1.heap.size, 0, none⟩ l.length (l.map letter) Try.underlying57 Try.underlying5 Try.underlying9 (by
              intro j hj
              simp only [List.length_map] at hj
              rw [Addr.add_lit, Nat.zero_add, hown.cellAt j (by omega)]
              simp [byteCell, hj])
            rw [List.length_map] at this
            exact this
          clear hown hbel
          go_wp2_with fail
          go_returns
          exact ⟨rfl, joins HB1.out HB.out⟩
    · have hs2 : isSeq l = false := by simpa using hs
      rw [txt_none hs2, hs2]
      go_enter Try.func28, Try.ntmps28
      go_wp2_with fail
      refine (isSequence_any _ l _ hv hl).mono ?_
      rintro e w1 ⟨rfl, hb1⟩
      rw [hs2]
      go_wp2_with fail
      go_returns
      exact ⟨rfl, hb1⟩
end Go.Proofs.Ytkkcdabcoafflab
