/- The model's InterleaveOf. -/
import Derived.Test.YtkkcdabcoafflabSJoinOf
import Derived.Test.YtkkcdabcoafflabSProductOf
import Derived.Test.YtkkcdabcoafflabDInterleaveOf
namespace Go.Proofs.Ytkkcdabcoafflab
open Go.RowKit

set_option maxHeartbeats 2000000 in
theorem phInterleave_any (va vb : Value) (l m : List Int) (w : World) (hva : IS w va l) (hvb : IS w vb m) (hs : isSeq l = true) (hlm : l.length = m.length) : Calls Try.prog 47 #[va, vb] w (Makes w (weaveG l m)) := by
  have h32 := isSeq_len hs
  obtain ⟨a, cap, hveq⟩ := hva.shape
  obtain ⟨a', cap', hveq'⟩ := hvb.shape
  subst hveq hveq'
  have HVA := Lib.hid hva
  have HVB := Lib.hid hvb
  obtain ⟨N, hN⟩ : ∃ N, N = l.length := ⟨_, rfl⟩
  obtain ⟨G, hG⟩ : ∃ G : Nat → Int, G = fun (i : Nat) => if i % 2 = 0 then l.getD (i / 2) 0 else m.getD (i / 2) 0 := ⟨_, rfl⟩
  have hgoal : weaveG l m = gen (2 * N) G := by rw [hN, hG]; rfl
  rw [hgoal]
  rw [← hlm] at HVB ⊢
  rw [← hN] at HVA HVB h32 ⊢
  have HN := Lib.hid hN
  have HG := Lib.hid hG
  have HLM := Lib.hid hlm
  clear hgoal hN hG hs hva hvb hlm
  go_enter Try.func47, Try.ntmps47
  go_wp2_with fail
  go_loopw [10, 5] (fun i o wr => ∃ j : Nat, j ≤ N ∧ i = .int .i64 j ∧ Own wr w.heap.size o (gen (2 * j) G) ∧ Below w.heap.size w wr) (fun i _ _ => N - (intOf i).toNat)
  case atStart => exact ⟨0, Nat.zero_le _, rfl, World.ownsRow_nil _ _ _ _, Below.refl _ _⟩
  case round =>
    obtain ⟨j, hj, rfl, hown, hbel⟩ := hrel
    by_cases hlt : j < N
    · have hltl : j < l.length := by rw [← HN.out]; exact hlt
      have hltm : j < m.length := by rw [← HLM.out]; exact hltl
      have hva2 := HVA.out.below hbel
      have hvb2 := HVB.out.below hbel
      rcases hva2 with ⟨h0, _⟩ | ⟨_, b, off, capa, hveq, _, hc⟩
      · rw [h0] at hltl; exact absurd hltl (Nat.not_lt_zero _)
      rcases hvb2 with ⟨h0, _⟩ | ⟨_, b2, off2, capb, hveq2, _, hc2⟩
      · rw [h0] at hltm; exact absurd hltm (Nat.not_lt_zero _)
      · simp only [Value.slice.injEq] at hveq hveq2
        obtain ⟨rfl, hnn, rfl⟩ := hveq
        obtain ⟨rfl, hnn2, rfl⟩ := hveq2
        clear hnn hnn2
        have c1 := hc j hltl
        have c2 := hc2 j hltm
        clear hc hc2
        have hgj : G (2 * j) = l.getD j 0 := by
          rw [HG.out]
          show (if 2 * j % 2 = 0 then l.getD (2 * j / 2) 0 else m.getD (2 * j / 2) 0) = _
          rw [if_pos (by omega), show 2 * j / 2 = j by omega]
        have hgj1 : G (2 * j + 1) = m.getD j 0 := by
          rw [HG.out]
          show (if (2 * j + 1) % 2 = 0 then l.getD ((2 * j + 1) / 2) 0 else m.getD ((2 * j + 1) / 2) 0) = _
          rw [if_neg (by omega), show (2 * j + 1) / 2 = j by omega]
        obtain ⟨x, hxd⟩ : ∃ x, x = l.getD j 0 := ⟨_, rfl⟩
        obtain ⟨y, hyd⟩ : ∃ y, y = m.getD j 0 := ⟨_, rfl⟩
        rw [← hxd] at c1 hgj
        rw [← hyd] at c2 hgj1
        have hgl : (gen (2 * j) G).length ≤ 1048576 := by rw [gen_length]; omega
        have hgs : gen (2 * (j + 1)) G = gen (2 * j) G ++ [x, y] := by
          rw [show 2 * (j + 1) = 2 * j + 1 + 1 by omega, gen_succ, gen_succ, hgj, hgj1, List.append_assoc]
          rfl
        have HGS := Lib.hid hgs
        have HGL := Lib.hid hgl
        have HO := Lib.hid hown
        have HB := Lib.hid hbel
        have h0 : (0 : Int) ≤ (j : Int) := by omega
        have h1 : (j : Int) < (N : Int) := by omega
        clear hxd hyd hgj hgj1 hgl hgs hown hbel
        go_wp2_with (at_builtin; refine wpList_pushAll rfl _ _ rfl w.heap.size _ (gen (2 * j) G) rfl (HO.out.alloc _) _ [x, y] rfl (Or.inr ⟨by simp, wr.heap.size, 0, 2, rfl, by simp [maxLen], fun i hi => by match i, hi with | 0, _ => simp | 1, _ => simp⟩) HGL.out (by simp) w.heap.size w (HB.out.alloc HB.out.size _) (Nat.le_refl _) (by have := HB.out.size; simp; omega) (by have := HB.out.size; simp; omega) ?_; intro v2 w2 ho2 hb2)
        go_roundw
        case rel => exact ⟨j + 1, by omega, by go_num, by rw [HGS.out]; assumption, by assumption⟩
        case measure => simp [intOf]; omega
    · have he : j = N := by omega
      subst he
      have HO := Lib.hid hown
      have HB := Lib.hid hbel
      clear hown hbel
      go_wp2_with fail
      go_returns
      exact ⟨_, rfl, HO.out, HB.out⟩

theorem isSeq_weave (l m : List Int) (hs : isSeq l = true) (ht : isSeq m = true) (hlm : l.length = m.length) : isSeq (weaveG l m) = weaveC l m := by
  have hall : allIn (weaveG l m) 0 3 = true := by
    unfold allIn weaveG gen
    rw [List.all_eq_true]
    intro z hz
    simp only [List.mem_map, List.mem_range] at hz
    obtain ⟨i, hi, rfl⟩ := hz
    have a1 := allIn_getD (isSeq_all hs) (i / 2) (by omega)
    have a2 := allIn_getD (isSeq_all ht) (i / 2) (by omega)
    by_cases hp : i % 2 = 0
    · simp only [if_pos hp, inB, decide_eq_true a1.1, decide_eq_true a1.2, Bool.and_self]
    · simp only [if_neg hp, inB, decide_eq_true a2.1, decide_eq_true a2.2, Bool.and_self]
  unfold isSeq weaveC
  rw [hall, Bool.and_true, Bool.eq_iff_iff]
  simp [weaveG, gen_length]
  omega

theorem sweave_walk (va vb : Value) (l m : List Int) (w : World) (hva : IS w va l) (hvb : IS w vb m) (hlen : l.length ≤ 1048576) (hlem : m.length ≤ 1048576) (hb : bothB l m = true) (hs : isSeq l = true) (hlm : l.length = m.length) (E : Value → Value) (ok : Bool) (out : List Int)
    (hE : ∀ v w, IS w v (weaveG l m) → Calls Try.prog 42 #[v] w (Ret w (.tuple #[E v, .bool ok])))
    (hO : ∀ B v w, Own w B v (weaveG l m) → Own w B (E v) out) : Calls Try.prog 23 #[va, vb] w (MakesB w out ok) := by
  obtain ⟨a, cap, hveq⟩ := hva.shape
  obtain ⟨a', cap', hveq'⟩ := hvb.shape
  subst hveq hveq'
  have HE := Lib.hid hE
  have HO := Lib.hid hO
  have HLM := Lib.hid hlm
  clear hE hO hlm
  go_enter Try.func23, Try.ntmps23
  go_wp2_with (first
    | (go_at_call 46; refine (phBoth_any _ _ l m _ hva hvb hlen hlem).mono ?_; rintro e w1 ⟨rfl, hb1⟩)
    | (go_at_call 47; refine (phInterleave_any _ _ l m _ (hva.below hb1) (hvb.below hb1) hs HLM.out).mono ?_; rintro e w2 ⟨v2, rfl, ho2, hb2⟩; have hB2 := joins hb1 hb2)
    | (go_at_call 42; refine (HE.out _ _ ho2.is).mono ?_; rintro e w3 ⟨rfl, hb3⟩; have hB3 := joins hB2 hb3; have ho3 := HO.out _ _ _ (ho2.below hb3); have hsz := hb1.size))
  go_returns
  exact ⟨_, rfl, Own.mono ‹Own _ _ (E _) _› (by assumption), ‹Below w.heap.size w _›⟩

set_option maxHeartbeats 1000000 in
theorem sweave (va vb : Value) (l m : List Int) (w : World) (hva : IS w va l) (hvb : IS w vb m) (hlen : l.length ≤ 1048576) (hlem : m.length ≤ 1048576) : Calls Try.prog 23 #[va, vb] w (MakesB w (weaveF l m) (weaveOk l m)) := by
  by_cases hb : bothB l m = true
  · have hp := hb
    simp only [bothB, Bool.and_eq_true] at hp
    obtain ⟨⟨hs, ht⟩, hp3⟩ := hp
    have hlm := of_decide_eq_true hp3
    have he := isSeq_weave l m hs ht hlm
    by_cases hc : weaveC l m = true
    · have ho : weaveOk l m = true := by simp [weaveOk, hs, ht, hc]
      have hf : weaveF l m = weaveG l m := by simp [weaveF, ho]
      rw [ho, hf]
      exact sweave_walk va vb l m w hva hvb hlen hlem hb hs hlm (fun v => v) true (weaveG l m) (fun v w h => phOr_yes v (weaveG l m) w h (by rw [he]; exact hc)) (fun B v w h => h)
    · have hc2 : weaveC l m = false := by simpa using hc
      have ho : weaveOk l m = false := by simp [weaveOk, hc2]
      have hf : weaveF l m = [] := by simp [weaveF, ho]
      rw [ho, hf]
      exact sweave_walk va vb l m w hva hvb hlen hlem hb hs hlm (fun _ => .slice none 0 0) false [] (fun v w h => phOr_no v (weaveG l m) w h (by rw [he]; exact hc2) (by have := isSeq_len hs; simp [weaveG, gen_length]; omega)) (fun B _ w _ => World.ownsRow_nil w B _ _)
  · have hb2 : bothB l m = false := by simpa using hb
    have ho : weaveOk l m = false := by
      unfold weaveOk weaveC
      unfold bothB at hb2
      cases h1 : isSeq l <;> cases h2 : isSeq m <;> simp [h1, h2] at hb2 ⊢
      omega
    have hf : weaveF l m = [] := by simp [weaveF, ho]
    rw [ho, hf]
    obtain ⟨a, cap, hveq⟩ := hva.shape
    obtain ⟨a', cap', hveq'⟩ := hvb.shape
    subst hveq hveq'
    clear ho hf hb
    go_enter Try.func23, Try.ntmps23
    go_wp2_with (go_at_call 46; refine (phBoth_any _ _ l m _ hva hvb hlen hlem).mono ?_; rintro e w1 ⟨rfl, hb1⟩)
    go_returns
    exact ⟨_, rfl, World.ownsRow_nil _ _ _ _, ‹_›⟩
end Go.Proofs.Ytkkcdabcoafflab
