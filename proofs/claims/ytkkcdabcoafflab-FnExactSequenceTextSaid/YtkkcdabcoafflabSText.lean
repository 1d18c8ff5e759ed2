/- SequenceText: the model's. -/
import Derived.Test.YtkkcdabcoafflabSeq
import Derived.Laws.Concat
import Derived.Laws.Strings2
namespace Go.Proofs.Ytkkcdabcoafflab
open Go.RowKit

def letter (k : Int) : UInt8 := if k = 0 then 43 else if k = 1 then 105 else if k = 2 then 45 else 106
def letters (l : List Int) : ByteArray := ⟨(l.map letter).toArray⟩
def txt (l : List Int) : ByteArray := if isSeq l then (if l = [] then ⟨#[48]⟩ else letters l) else ⟨#[]⟩
theorem letters_take_succ (l : List Int) (k : Nat) (h : k < l.length) : letters (l.take k) ++ ⟨#[letter (l.getD k 0)]⟩ = letters (l.take (k + 1)) := by
  unfold letters
  rw [List.take_succ_eq_append_getElem h, List.map_append]
  have := ByteArray.mk_append_mk ((l.take k).map letter) [letter (l.getD k 0)]
  simpa [List.getD, h] using this
theorem one_size (b : UInt8) : (ByteArray.mk #[b]).size = 1 := rfl
theorem letters_size (l : List Int) : (letters l).size = l.length := by simp [letters, ByteArray.size]

set_option maxHeartbeats 1000000 in
theorem phText_any (v : Value) (l : List Int) (w : World) (hv : IS w v l) (hs : isSeq l = true) (hn : l ≠ []) : Calls Try.prog 51 #[v] w (Ret w (.string (letters l))) := by
  have h32 := isSeq_len hs
  rcases hv with ⟨rfl, _⟩ | ⟨_, b, off, cap, rfl, hm, hc⟩
  · exact absurd rfl hn
  have HC := Lib.hid hc
  have HS := Lib.hid hs
  have hpos : 0 < l.length := List.length_pos_iff.2 hn
  clear hm hn hc hs
  go_enter Try.func51, Try.ntmps51
  go_wp2_with fail
  go_loop [11, 3] (fun i q => ∃ k : Nat, k ≤ l.length ∧ i = .int .i64 k ∧ q = .string (letters (l.take k))) (fun i _ => l.length - (intOf i).toNat)
  case atStart => exact ⟨0, Nat.zero_le _, rfl, rfl⟩
  case round =>
    obtain ⟨k, hk, rfl, rfl⟩ := hrel
    by_cases hlt : k < l.length
    · have c1 := HC.out k hlt
      have hz := letters_size (l.take k)
      rw [List.length_take] at hz
      have hx2 := allIn_getD (isSeq_all HS.out) k hlt
      have hst := letters_take_succ l k hlt
      obtain ⟨x, hx⟩ : ∃ x, x = l.getD k 0 := ⟨_, rfl⟩
      rw [← hx] at c1 hx2 hst
      clear hx
      obtain ⟨s, hs⟩ : ∃ s, s = letters (l.take k) := ⟨_, rfl⟩
      rw [← hs] at hst hz ⊢
      clear hs
      have HT := Lib.hid hst
      have hadd := fun (i j : Nat) (h : ((ByteArray.mk #[43, 105, 45, 106]).extract i j).size ≤ 4) w => run_string_add (P := Try.prog) w s ((ByteArray.mk #[43, 105, 45, 106]).extract i j) (by omega) (by omega)
      have HADD := Lib.hid hadd
      clear hst hz hadd
      have h0 : (0 : Int) ≤ (k : Int) := by omega
      have h1 : (k : Int) < (l.length : Int) := by omega
      have hk4 : x = 0 ∨ x = 1 ∨ x = 2 ∨ x = 3 := by omega
      clear hx2
      rcases hk4 with rfl | rfl | rfl | rfl
      · have hadd := HADD.out 0 1 (by decide)
        have HE := Lib.hid (show ByteArray.mk #[letter 0] = (ByteArray.mk #[43, 105, 45, 106]).extract 0 1 by decide)
        go_wp2
        go_round
        case rel => exact ⟨k + 1, by omega, by go_num, by rw [← HT.out, HE.out]⟩
        case measure => simp [intOf]; omega
      · have hadd := HADD.out 1 2 (by decide)
        have HE := Lib.hid (show ByteArray.mk #[letter 1] = (ByteArray.mk #[43, 105, 45, 106]).extract 1 2 by decide)
        go_wp2
        go_round
        case rel => exact ⟨k + 1, by omega, by go_num, by rw [← HT.out, HE.out]⟩
        case measure => simp [intOf]; omega
      · have hadd := HADD.out 2 3 (by decide)
        have HE := Lib.hid (show ByteArray.mk #[letter 2] = (ByteArray.mk #[43, 105, 45, 106]).extract 2 3 by decide)
        go_wp2
        go_round
        case rel => exact ⟨k + 1, by omega, by go_num, by rw [← HT.out, HE.out]⟩
        case measure => simp [intOf]; omega
      · have hadd := HADD.out 3 4 (by decide)
        have HE := Lib.hid (show ByteArray.mk #[letter 3] = (ByteArray.mk #[43, 105, 45, 106]).extract 3 4 by decide)
        go_wp2
        go_round
        case rel => exact ⟨k + 1, by omega, by go_num, by rw [← HT.out, HE.out]⟩
        case measure => simp [intOf]; omega
    · rw [List.take_of_length_le (by omega : l.length ≤ k)]
      go_wp2_with fail
      go_returns
      exact ⟨rfl, by go_grown⟩
theorem txt_some {l : List Int} (h : isSeq l = true) (hn : l ≠ []) : txt l = letters l := by unfold txt; rw [if_pos h, if_neg hn]
theorem txt_none {l : List Int} (h : isSeq l = false) : txt l = ⟨#[]⟩ := by unfold txt; rw [h]; rfl
theorem isSeq_nil : isSeq [] = true := by decide
theorem txt_nil : txt [] = ⟨#[48]⟩ := rfl

set_option maxHeartbeats 1000000 in
theorem stext (v : Value) (l : List Int) (w : World) (hv : IS w v l) (hl : l.length ≤ 1048576) : Calls Try.prog 27 #[v] w (Ret w (.tuple #[.string (txt l), .bool (isSeq l)])) := by
  by_cases hn : l = []
  · subst hn
    obtain ⟨a, cap, rfl⟩ : ∃ a cap, v = .slice a 0 cap := by
      rcases hv with ⟨_, a, cap, rfl⟩ | ⟨h, _⟩
      · exact ⟨_, _, rfl⟩
      · exact absurd rfl h
    rw [txt_nil, isSeq_nil]
    go_enter Try.func27, Try.ntmps27
    go_wp2_with fail
    refine (phIs_any _ [] _ hv hl).mono ?_
    rintro e w1 ⟨rfl, hb1⟩
    rw [isSeq_nil]
    go_wp2
    go_returns
    exact ⟨rfl, hb1⟩
  · by_cases hs : isSeq l = true
    · rw [txt_some hs hn, hs]
      go_enter Try.func27, Try.ntmps27
      go_wp2_with fail
      refine (phIs_any _ l _ hv hl).mono ?_
      rintro e w1 ⟨rfl, hb1⟩
      rw [hs]
      go_wp2_with fail
      refine (phText_any _ l _ (hv.below hb1) hs hn).mono ?_
      rintro e w2 ⟨rfl, hb2⟩
      have hB := joins hb1 hb2
      go_wp2_with fail
      go_returns
      exact ⟨rfl, hB⟩
    · have hs2 : isSeq l = false := by simpa using hs
      rw [txt_none hs2, hs2]
      go_enter Try.func27, Try.ntmps27
      go_wp2_with fail
      refine (phIs_any _ l _ hv hl).mono ?_
      rintro e w1 ⟨rfl, hb1⟩
      rw [hs2]
      go_wp2_with fail
      go_returns
      exact ⟨rfl, hb1⟩
end Go.Proofs.Ytkkcdabcoafflab
