/- The model's JoinOf. -/
import Derived.Test.YtkkcdabcoafflabPush
import Derived.Test.YtkkcdabcoafflabDJoinOf
namespace Go.Proofs.Ytkkcdabcoafflab
open Go.RowKit

theorem IS.shape {w : World} {v : Value} {l : List Int} (hv : IS w v l) : ∃ a cap, v = .slice a l.length cap := by
  rcases hv with ⟨rfl, a, cap, rfl⟩ | ⟨_, b, off, cap, rfl, _⟩ <;> exact ⟨_, _, rfl⟩
set_option maxHeartbeats 1000000 in
theorem phOr_yes (v : Value) (l : List Int) (w : World) (hv : IS w v l) (hs : isSeq l = true) : Calls Try.prog 42 #[v] w (Ret w (.tuple #[v, .bool true])) := by
  have h32 := isSeq_len hs
  go_enter Try.func42, Try.ntmps42
  go_wp2_with (go_at_call 35; refine (phIs_any _ l _ hv (by omega)).mono ?_; rintro e w1 ⟨rfl, hb1⟩)
  go_returns
  exact ⟨rfl, ‹_›⟩
set_option maxHeartbeats 1000000 in
theorem phOr_no (v : Value) (l : List Int) (w : World) (hv : IS w v l) (hs : isSeq l = false) (hlen : l.length ≤ 1048576) : Calls Try.prog 42 #[v] w (Ret w (.tuple #[.slice none 0 0, .bool false])) := by
  go_enter Try.func42, Try.ntmps42
  go_wp2_with (go_at_call 35; refine (phIs_any _ l _ hv hlen).mono ?_; rintro e w1 ⟨rfl, hb1⟩)
  go_returns
  exact ⟨rfl, ‹_›⟩

set_option maxHeartbeats 1000000 in
theorem l1Own_any (v : Value) (l : List Int) (w : World) (hv : IS w v l) (hlen : l.length ≤ 1048576) : Calls Try.prog 43 #[v] w (Makes w l) := by
  obtain ⟨a, cap, hveq⟩ := hv.shape
  subst hveq
  have HV := Lib.hid hv
  clear hv
  go_enter Try.func43, Try.ntmps43
  go_wp2_with (at_builtin; refine wpList_pushAll rfl _ _ rfl w.heap.size _ [] rfl (World.ownsRow_lit w #[] 0 (Nat.le_refl _) (Nat.zero_le _) rfl) _ l rfl (HV.out.below (by go_grown)) (by simp) hlen w.heap.size w (by go_grown) (Nat.le_refl _) (by simp) (by simp) ?_; intro v2 w2 ho2 hb2)
  go_returns
  exact ⟨_, rfl, by simpa using ‹Own _ _ _ _›, ‹_›⟩

theorem isSeq_append (l m : List Int) (hl : isSeq l = true) (hm : isSeq m = true) : isSeq (l ++ m) = joinC l m := by
  have h1 := isSeq_all hl
  have h2 := isSeq_all hm
  unfold allIn at h1 h2
  simp only [isSeq, joinC, allIn, List.all_append, h1, h2, List.length_append, Bool.and_self, Bool.and_true]

/-- The two tests that open each of these functions. -/
theorem sjoin_walk (va vb : Value) (l m : List Int) (w : World) (hva : IS w va l) (hvb : IS w vb m) (hlen : l.length ≤ 1048576) (hlem : m.length ≤ 1048576) (hs : isSeq l = true) (ht : isSeq m = true) (E : Value → Value) (ok : Bool) (out : List Int)
    (hE : ∀ v w, IS w v (l ++ m) → Calls Try.prog 42 #[v] w (Ret w (.tuple #[E v, .bool ok])))
    (hO : ∀ B v w, Own w B v (l ++ m) → Own w B (E v) out) : Calls Try.prog 21 #[va, vb] w (MakesB w out ok) := by
  obtain ⟨a, cap, hveq⟩ := hva.shape
  obtain ⟨a', cap', hveq'⟩ := hvb.shape
  subst hveq hveq'
  have HE := Lib.hid hE
  have HO := Lib.hid hO
  clear hE hO
  have tok1 : True := trivial
  go_enter Try.func21, Try.ntmps21
  go_wp2_with (first
    | (go_at_call 35; have _t := tok1; refine (phIs_any _ l _ hva hlen).mono ?_; rintro e w1 ⟨rfl, hb1⟩; clear tok1)
    | (go_at_call 35; refine (phIs_any _ m _ (hvb.below hb1) hlem).mono ?_; rintro e w2 ⟨rfl, hb2⟩; have hB2 := joins hb1 hb2)
    | (go_at_call 43; refine (l1Own_any _ l _ (hva.below hB2) hlen).mono ?_; rintro e w3 ⟨v3, rfl, ho3, hb3⟩; have hB3 := joins hB2 hb3)
    | (at_builtin; refine wpList_pushAll rfl _ _ rfl w2.heap.size _ l rfl ho3 _ m rfl (hvb.below hB3) hlen hlem w.heap.size w hB3 hB2.size hb3.size hB3.size ?_; intro v4 w4 ho4 hb4)
    | (go_at_call 42; refine (HE.out _ _ ho4.is).mono ?_; rintro e w5 ⟨rfl, hb5⟩; have hB5 := joins hb4 hb5; have ho5 := HO.out _ _ _ (ho4.below hb5); have hsz := hB2.size))
  go_returns
  exact ⟨_, rfl, Own.mono ‹Own _ _ (E _) _› (by assumption), ‹Below w.heap.size w _›⟩

set_option maxHeartbeats 1000000 in
theorem sjoin (va vb : Value) (l m : List Int) (w : World) (hva : IS w va l) (hvb : IS w vb m) (hlen : l.length ≤ 1048576) (hlem : m.length ≤ 1048576) : Calls Try.prog 21 #[va, vb] w (MakesB w (joinF l m) (joinOk l m)) := by
  by_cases hs : isSeq l = true
  · by_cases ht : isSeq m = true
    · have he := isSeq_append l m hs ht
      by_cases hc : joinC l m = true
      · have ho : joinOk l m = true := by simp [joinOk, hs, ht, hc]
        have hf : joinF l m = l ++ m := by simp [joinF, ho, joinG]
        rw [ho, hf]
        exact sjoin_walk va vb l m w hva hvb hlen hlem hs ht (fun v => v) true (l ++ m) (fun v w h => phOr_yes v (l ++ m) w h (by rw [he]; exact hc)) (fun B v w h => h)
      · have hc2 : joinC l m = false := by simpa using hc
        have ho : joinOk l m = false := by simp [joinOk, hc2]
        have hf : joinF l m = [] := by simp [joinF, ho]
        rw [ho, hf]
        exact sjoin_walk va vb l m w hva hvb hlen hlem hs ht (fun _ => .slice none 0 0) false [] (fun v w h => phOr_no v (l ++ m) w h (by rw [he]; exact hc2) (by have := isSeq_len hs; have := isSeq_len ht; simp; omega)) (fun B _ w _ => World.ownsRow_nil w B _ _)
    · have ht2 : isSeq m = false := by simpa using ht
      have ho : joinOk l m = false := by simp [joinOk, ht2]
      have hf : joinF l m = [] := by simp [joinF, ho]
      rw [ho, hf]
      obtain ⟨a, cap, hveq⟩ := hva.shape
      obtain ⟨a', cap', hveq'⟩ := hvb.shape
      subst hveq hveq'
      clear ho hf ht
      have tok1 : True := trivial
      go_enter Try.func21, Try.ntmps21
      go_wp2_with (first
        | (go_at_call 35; have _t := tok1; refine (phIs_any _ l _ hva hlen).mono ?_; rintro e w1 ⟨rfl, hb1⟩; clear tok1)
        | (go_at_call 35; refine (phIs_any _ m _ (hvb.below hb1) hlem).mono ?_; rintro e w2 ⟨rfl, hb2⟩; have hB2 := joins hb1 hb2))
      go_returns
      exact ⟨_, rfl, World.ownsRow_nil _ _ _ _, ‹Below w.heap.size w _›⟩
  · have hs2 : isSeq l = false := by simpa using hs
    have ho : joinOk l m = false := by simp [joinOk, hs2]
    have hf : joinF l m = [] := by simp [joinF, ho]
    rw [ho, hf]
    obtain ⟨a, cap, hveq⟩ := hva.shape
    obtain ⟨a', cap', hveq'⟩ := hvb.shape
    subst hveq hveq'
    clear ho hf hs
    go_enter Try.func21, Try.ntmps21
    go_wp2_with (go_at_call 35; refine (phIs_any _ l _ hva hlen).mono ?_; rintro e w1 ⟨rfl, hb1⟩)
    go_returns
    exact ⟨_, rfl, World.ownsRow_nil _ _ _ _, ‹_›⟩
end Go.Proofs.Ytkkcdabcoafflab
