/- The model's JoinOf. The model's ProductOf. The model's InterleaveOf. The model's phTurn. The model's phClimb. The model's phConjugate. The model's phBack. -/
import Derived.Test.YtfjhocmnafdnfaaPhs
import Derived.Test.YtfjhocmnafdnfaaMov
import Derived.Test.YtfjhocmnafdnfaaKit
namespace Go.Proofs.Ytfjhocmnafdnfaa
set_option maxRecDepth 100000
section
open Go.RowKit

set_option maxHeartbeats 1000000 in
theorem phOr_yes (v : Value) (l : List Int) (w : World) (hv : IS w v l) (hs : isSeq l = true) : Calls Try.prog 164 #[v] w (Ret w (.tuple #[v, .bool true])) := by
  have h32 := isSeq_len hs
  go_enter Try.func164, Try.ntmps164
  go_wp2_with (go_at_call 110; refine (phIs_any _ l _ hv (by omega)).mono ?_; rintro e w1 ⟨rfl, hb1⟩)
  go_returns
  exact ⟨rfl, ‹_›⟩
set_option maxHeartbeats 1000000 in
theorem phOr_no (v : Value) (l : List Int) (w : World) (hv : IS w v l) (hs : isSeq l = false) (hlen : l.length ≤ 1048576) : Calls Try.prog 164 #[v] w (Ret w (.tuple #[.slice none 0 0, .bool false])) := by
  go_enter Try.func164, Try.ntmps164
  go_wp2_with (go_at_call 110; refine (phIs_any _ l _ hv hlen).mono ?_; rintro e w1 ⟨rfl, hb1⟩)
  go_returns
  exact ⟨rfl, ‹_›⟩

set_option maxHeartbeats 1000000 in
theorem l1Own_any (v : Value) (l : List Int) (w : World) (hv : IS w v l) (hlen : l.length ≤ 1048576) : Calls Try.prog 169 #[v] w (Makes w l) := by
  obtain ⟨a, cap, hveq⟩ := hv.shape
  subst hveq
  have HV := Lib.hid hv
  clear hv
  go_enter Try.func169, Try.ntmps169
  go_wp2_with (at_builtin; refine wpList_pushAll rfl _ _ rfl w.heap.size _ [] rfl (World.ownsRow_lit w #[] 0 (Nat.le_refl _) (Nat.zero_le _) rfl) _ l rfl (HV.out.below (by go_grown)) (by simp) hlen w.heap.size w (by go_grown) (Nat.le_refl _) (by simp) (by simp) ?_; intro v2 w2 ho2 hb2)
  go_returns
  exact ⟨_, rfl, by simpa using ‹Own _ _ _ _›, ‹_›⟩

theorem isSeq_append (l m : List Int) (hl : isSeq l = true) (hm : isSeq m = true) : isSeq (l ++ m) = joinC l m := by
  have h1 := isSeq_all hl
  have h2 := isSeq_all hm
  unfold allIn at h1 h2
  simp only [isSeq, joinC, allIn, List.all_append, h1, h2, List.length_append, Bool.and_self, Bool.and_true]

/-- The two tests that open each of these functions. -/
theorem sjoin_walk (va vb : Value) (l m : List Int) (w : World) (hva : IS w va l) (hvb : IS w vb m) (hlen : l.length ≤ 1048576) (hlem : m.length ≤ 1048576) (hs : isSeq l = true) (ht : isSeq m = true) (E : Value → Value) (ok : Bool) (out : List Int)
    (hE : ∀ v w, IS w v (l ++ m) → Calls Try.prog 164 #[v] w (Ret w (.tuple #[E v, .bool ok])))
    (hO : ∀ B v w, Own w B v (l ++ m) → Own w B (E v) out) : Calls Try.prog 84 #[va, vb] w (MakesB w out ok) := by
  obtain ⟨a, cap, hveq⟩ := hva.shape
  obtain ⟨a', cap', hveq'⟩ := hvb.shape
  subst hveq hveq'
  have HE := Lib.hid hE
  have HO := Lib.hid hO
  clear hE hO
  have tok1 : True := trivial
  go_enter Try.func84, Try.ntmps84
  go_wp2_with (first
    | (go_at_call 110; have _t := tok1; refine (phIs_any _ l _ hva hlen).mono ?_; rintro e w1 ⟨rfl, hb1⟩; clear tok1)
    | (go_at_call 110; refine (phIs_any _ m _ (hvb.below hb1) hlem).mono ?_; rintro e w2 ⟨rfl, hb2⟩; have hB2 := joins hb1 hb2)
    | (go_at_call 169; refine (l1Own_any _ l _ (hva.below hB2) hlen).mono ?_; rintro e w3 ⟨v3, rfl, ho3, hb3⟩; have hB3 := joins hB2 hb3)
    | (at_builtin; refine wpList_pushAll rfl _ _ rfl w2.heap.size _ l rfl ho3 _ m rfl (hvb.below hB3) hlen hlem w.heap.size w hB3 hB2.size hb3.size hB3.size ?_; intro v4 w4 ho4 hb4)
    | (go_at_call 164; refine (HE.out _ _ ho4.is).mono ?_; rintro e w5 ⟨rfl, hb5⟩; have hB5 := joins hb4 hb5; have ho5 := HO.out _ _ _ (ho4.below hb5); have hsz := hB2.size))
  go_returns
  exact ⟨_, rfl, Own.mono ‹Own _ _ (E _) _› (by assumption), ‹Below w.heap.size w _›⟩

set_option maxHeartbeats 1000000 in
theorem sjoin (va vb : Value) (l m : List Int) (w : World) (hva : IS w va l) (hvb : IS w vb m) (hlen : l.length ≤ 1048576) (hlem : m.length ≤ 1048576) : Calls Try.prog 84 #[va, vb] w (MakesB w (joinF l m) (joinOk l m)) := by
  by_cases hs : isSeq l = true
  · by_cases ht : isSeq m = true
    · have he := isSeq_append l m hs ht
      by_cases hc : joinC l m = true
      · have ho : joinOk l m = true := by simp [joinOk, hs, ht, hc]
        have hf : joinF l m = l ++ m := by simp [joinF, ho, joinG]
        rw [ho, hf]
        exact sjoin_walk va vb l m w hva hvb hlen hlem hs ht (fun v => v) true (l ++ m) (fun v w h => phOr_yes v (l ++ m) w h (by rw [he]; exact hc)) (fun B v w h => h)
      · have hc2 : joinC l m = false := by simpa using hc
        have ho : joinOk l m = false := by simp [joinOk, hc2]
        have hf : joinF l m = [] := by simp [joinF, ho]
        rw [ho, hf]
        exact sjoin_walk va vb l m w hva hvb hlen hlem hs ht (fun _ => .slice none 0 0) false [] (fun v w h => phOr_no v (l ++ m) w h (by rw [he]; exact hc2) (by have := isSeq_len hs; have := isSeq_len ht; simp; omega)) (fun B _ w _ => World.ownsRow_nil w B _ _)
    · have ht2 : isSeq m = false := by simpa using ht
      have ho : joinOk l m = false := by simp [joinOk, ht2]
      have hf : joinF l m = [] := by simp [joinF, ho]
      rw [ho, hf]
      obtain ⟨a, cap, hveq⟩ := hva.shape
      obtain ⟨a', cap', hveq'⟩ := hvb.shape
      subst hveq hveq'
      clear ho hf ht
      have tok1 : True := trivial
      go_enter Try.func84, Try.ntmps84
      go_wp2_with (first
        | (go_at_call 110; have _t := tok1; refine (phIs_any _ l _ hva hlen).mono ?_; rintro e w1 ⟨rfl, hb1⟩; clear tok1)
        | (go_at_call 110; refine (phIs_any _ m _ (hvb.below hb1) hlem).mono ?_; rintro e w2 ⟨rfl, hb2⟩; have hB2 := joins hb1 hb2))
      go_returns
      exact ⟨_, rfl, World.ownsRow_nil _ _ _ _, ‹Below w.heap.size w _›⟩
  · have hs2 : isSeq l = false := by simpa using hs
    have ho : joinOk l m = false := by simp [joinOk, hs2]
    have hf : joinF l m = [] := by simp [joinF, ho]
    rw [ho, hf]
    obtain ⟨a, cap, hveq⟩ := hva.shape
    obtain ⟨a', cap', hveq'⟩ := hvb.shape
    subst hveq hveq'
    clear ho hf hs
    go_enter Try.func84, Try.ntmps84
    go_wp2_with (go_at_call 110; refine (phIs_any _ l _ hva hlen).mono ?_; rintro e w1 ⟨rfl, hb1⟩)
    go_returns
    exact ⟨_, rfl, World.ownsRow_nil _ _ _ _, ‹_›⟩
end
section
open Go.RowKit

set_option maxHeartbeats 2000000 in
theorem phProduct_any (va vb : Value) (l m : List Int) (w : World) (hva : IS w va l) (hvb : IS w vb m) (hs : isSeq l = true) (ht : isSeq m = true) (hlm : l.length = m.length) : Calls Try.prog 167 #[va, vb] w (Makes w (prodG l m)) := by
  have h32 := isSeq_len hs
  have HALL := Lib.hid (isSeq_all hs)
  have HALM := Lib.hid (isSeq_all ht)
  obtain ⟨a, cap, hveq⟩ : ∃ a cap, va = .slice a l.length cap := by rcases hva with ⟨rfl, a, cap, rfl⟩ | ⟨_, b, off, cap, rfl, _⟩ <;> exact ⟨_, _, rfl⟩
  obtain ⟨a', cap', hveq'⟩ : ∃ a cap, vb = .slice a m.length cap := by rcases hvb with ⟨rfl, a, cap, rfl⟩ | ⟨_, b, off, cap, rfl, _⟩ <;> exact ⟨_, _, rfl⟩
  subst hveq hveq'
  have HVA := Lib.hid hva
  have HVB := Lib.hid hvb
  obtain ⟨N, hN⟩ : ∃ N, N = l.length := ⟨_, rfl⟩
  obtain ⟨G, hG⟩ : ∃ G : Nat → Int, G = fun (i : Nat) => (l.getD i 0 + m.getD i 0) % 4 := ⟨_, rfl⟩
  have hgoal : prodG l m = gen N G := by rw [hN, hG]; rfl
  rw [hgoal]
  rw [← hlm] at HVB ⊢
  rw [← hN] at HVA HVB h32 ⊢
  have HN := Lib.hid hN
  have HG := Lib.hid hG
  have HLM := Lib.hid hlm
  clear hgoal hN hG hs ht hva hvb hlm
  go_enter Try.func167, Try.ntmps167
  go_wp2_with fail
  go_loopw [10, 5] (fun i o wr => ∃ j : Nat, j ≤ N ∧ i = .int .i64 j ∧ Own wr w.heap.size o (gen j G) ∧ Below w.heap.size w wr) (fun i _ _ => N - (intOf i).toNat)
  case atStart => exact ⟨0, Nat.zero_le _, rfl, World.ownsRow_nil _ _ _ _, Below.refl _ _⟩
  case round =>
    obtain ⟨j, hj, rfl, hown, hbel⟩ := hrel
    by_cases hlt : j < N
    · have hltl : j < l.length := by rw [← HN.out]; exact hlt
      have hltm : j < m.length := by rw [← HLM.out]; exact hltl
      have hx := allIn_getD HALL.out j hltl
      have hy := allIn_getD HALM.out j hltm
      have hva2 := HVA.out.below hbel
      have hvb2 := HVB.out.below hbel
      rcases hva2 with ⟨h0, _⟩ | ⟨_, b, off, capa, hveq, _, hc⟩
      · rw [h0] at hltl; exact absurd hltl (Nat.not_lt_zero _)
      rcases hvb2 with ⟨h0, _⟩ | ⟨_, b2, off2, capb, hveq2, _, hc2⟩
      · rw [h0] at hltm; exact absurd hltm (Nat.not_lt_zero _)
      · simp only [Value.slice.injEq] at hveq hveq2
        obtain ⟨rfl, hnn, rfl⟩ := hveq
        obtain ⟨rfl, hnn2, rfl⟩ := hveq2
        clear hnn hnn2
        have c1 := hc j hltl
        have c2 := hc2 j hltm
        clear hc hc2
        have hgj : G j = (l.getD j 0 + m.getD j 0) % 4 := by rw [HG.out]
        obtain ⟨x, hxd⟩ : ∃ x, x = l.getD j 0 := ⟨_, rfl⟩
        obtain ⟨y, hyd⟩ : ∃ y, y = m.getD j 0 := ⟨_, rfl⟩
        rw [← hxd] at c1 hx hgj
        rw [← hyd] at c2 hy hgj
        have hgl : (gen j G).length ≤ 1048576 := by rw [gen_length]; omega
        have hgs := gen_succ j G
        rw [hgj] at hgs
        have HGS := Lib.hid hgs
        have HGL := Lib.hid hgl
        have HO := Lib.hid hown
        have HB := Lib.hid hbel
        have h0 : (0 : Int) ≤ (j : Int) := by omega
        have h1 : (j : Int) < (N : Int) := by omega
        obtain ⟨hx1, hx2⟩ := hx
        obtain ⟨hy1, hy2⟩ := hy
        clear hxd hyd hgj hgl hgs hown hbel
        go_wp2_with (first
          | (go_at_call 184; refine (phMod_any _ (by omega) (by omega) _).mono ?_; rintro e w' ⟨rfl, rfl⟩)
          | (at_builtin; refine wpList_push rfl _ _ rfl w.heap.size _ (gen j G) rfl (HO.out.alloc _) wr.heap.size 1 ((x + y) % 4) rfl (by simp) HGL.out w.heap.size w (HB.out.alloc HB.out.size _) (Nat.le_refl _) (by have := HB.out.size; simp; omega) (by have := HB.out.size; simp; omega) ?_; intro v2 w2 ho2 hb2))
        go_roundw
        case rel => exact ⟨j + 1, by omega, by go_num, by rw [HGS.out]; assumption, by assumption⟩
        case measure => simp [intOf]; omega
    · have he : j = N := by omega
      subst he
      have HO := Lib.hid hown
      have HB := Lib.hid hbel
      clear hown hbel
      go_wp2_with fail
      go_returns
      exact ⟨_, rfl, HO.out, HB.out⟩

set_option maxHeartbeats 1000000 in
theorem sprod (va vb : Value) (l m : List Int) (w : World) (hva : IS w va l) (hvb : IS w vb m) (hlen : l.length ≤ 1048576) (hlem : m.length ≤ 1048576) : Calls Try.prog 81 #[va, vb] w (MakesB w (prodF l m) (prodOk l m)) := by
  obtain ⟨a, cap, hveq⟩ : ∃ a cap, va = .slice a l.length cap := by rcases hva with ⟨rfl, a, cap, rfl⟩ | ⟨_, b, off, cap, rfl, _⟩ <;> exact ⟨_, _, rfl⟩
  obtain ⟨a', cap', hveq'⟩ : ∃ a cap, vb = .slice a m.length cap := by rcases hvb with ⟨rfl, a, cap, rfl⟩ | ⟨_, b, off, cap, rfl, _⟩ <;> exact ⟨_, _, rfl⟩
  subst hveq hveq'
  have he : prodOk l m = bothB l m := rfl
  by_cases hb : bothB l m = true
  · have hf : prodF l m = prodG l m := by simp [prodF, he, hb]
    rw [he, hb, hf]
    have hp := hb
    simp only [bothB, Bool.and_eq_true] at hp
    obtain ⟨⟨hp1, hp2⟩, hp3⟩ := hp
    have hp4 := of_decide_eq_true hp3
    have HP1 := Lib.hid hp1
    have HP2 := Lib.hid hp2
    have HP4 := Lib.hid hp4
    clear hf he hp1 hp2 hp3 hp4
    go_enter Try.func81, Try.ntmps81
    go_wp2_with (first
      | (go_at_call 136; refine (phBoth_any _ _ l m _ hva hvb hlen hlem).mono ?_; rintro e w1 ⟨rfl, hb1⟩)
      | (go_at_call 167; refine (phProduct_any _ _ l m _ (hva.below hb1) (hvb.below hb1) HP1.out HP2.out HP4.out).mono ?_; rintro e w2 ⟨v2, rfl, ho2, hb2⟩))
    go_returns
    exact ⟨_, rfl, Own.mono ‹Own _ _ _ _› hb1.size, joins hb1 ‹_›⟩
  · have hb2 : bothB l m = false := by simpa using hb
    have hf : prodF l m = [] := by simp [prodF, he, hb2]
    rw [he, hb2, hf]
    clear hf he hb
    go_enter Try.func81, Try.ntmps81
    go_wp2_with (go_at_call 136; refine (phBoth_any _ _ l m _ hva hvb hlen hlem).mono ?_; rintro e w1 ⟨rfl, hb1⟩)
    go_returns
    exact ⟨_, rfl, World.ownsRow_nil _ _ _ _, ‹_›⟩
end
section
open Go.RowKit

set_option maxHeartbeats 2000000 in
theorem phInterleave_any (va vb : Value) (l m : List Int) (w : World) (hva : IS w va l) (hvb : IS w vb m) (hs : isSeq l = true) (hlm : l.length = m.length) : Calls Try.prog 165 #[va, vb] w (Makes w (weaveG l m)) := by
  have h32 := isSeq_len hs
  obtain ⟨a, cap, hveq⟩ := hva.shape
  obtain ⟨a', cap', hveq'⟩ := hvb.shape
  subst hveq hveq'
  have HVA := Lib.hid hva
  have HVB := Lib.hid hvb
  obtain ⟨N, hN⟩ : ∃ N, N = l.length := ⟨_, rfl⟩
  obtain ⟨G, hG⟩ : ∃ G : Nat → Int, G = fun (i : Nat) => if i % 2 = 0 then l.getD (i / 2) 0 else m.getD (i / 2) 0 := ⟨_, rfl⟩
  have hgoal : weaveG l m = gen (2 * N) G := by rw [hN, hG]; rfl
  rw [hgoal]
  rw [← hlm] at HVB ⊢
  rw [← hN] at HVA HVB h32 ⊢
  have HN := Lib.hid hN
  have HG := Lib.hid hG
  have HLM := Lib.hid hlm
  clear hgoal hN hG hs hva hvb hlm
  go_enter Try.func165, Try.ntmps165
  go_wp2_with fail
  go_loopw [10, 5] (fun i o wr => ∃ j : Nat, j ≤ N ∧ i = .int .i64 j ∧ Own wr w.heap.size o (gen (2 * j) G) ∧ Below w.heap.size w wr) (fun i _ _ => N - (intOf i).toNat)
  case atStart => exact ⟨0, Nat.zero_le _, rfl, World.ownsRow_nil _ _ _ _, Below.refl _ _⟩
  case round =>
    obtain ⟨j, hj, rfl, hown, hbel⟩ := hrel
    by_cases hlt : j < N
    · have hltl : j < l.length := by rw [← HN.out]; exact hlt
      have hltm : j < m.length := by rw [← HLM.out]; exact hltl
      have hva2 := HVA.out.below hbel
      have hvb2 := HVB.out.below hbel
      rcases hva2 with ⟨h0, _⟩ | ⟨_, b, off, capa, hveq, _, hc⟩
      · rw [h0] at hltl; exact absurd hltl (Nat.not_lt_zero _)
      rcases hvb2 with ⟨h0, _⟩ | ⟨_, b2, off2, capb, hveq2, _, hc2⟩
      · rw [h0] at hltm; exact absurd hltm (Nat.not_lt_zero _)
      · simp only [Value.slice.injEq] at hveq hveq2
        obtain ⟨rfl, hnn, rfl⟩ := hveq
        obtain ⟨rfl, hnn2, rfl⟩ := hveq2
        clear hnn hnn2
        have c1 := hc j hltl
        have c2 := hc2 j hltm
        clear hc hc2
        have hgj : G (2 * j) = l.getD j 0 := by
          rw [HG.out]
          show (if 2 * j % 2 = 0 then l.getD (2 * j / 2) 0 else m.getD (2 * j / 2) 0) = _
          rw [if_pos (by omega), show 2 * j / 2 = j by omega]
        have hgj1 : G (2 * j + 1) = m.getD j 0 := by
          rw [HG.out]
          show (if (2 * j + 1) % 2 = 0 then l.getD ((2 * j + 1) / 2) 0 else m.getD ((2 * j + 1) / 2) 0) = _
          rw [if_neg (by omega), show (2 * j + 1) / 2 = j by omega]
        obtain ⟨x, hxd⟩ : ∃ x, x = l.getD j 0 := ⟨_, rfl⟩
        obtain ⟨y, hyd⟩ : ∃ y, y = m.getD j 0 := ⟨_, rfl⟩
        rw [← hxd] at c1 hgj
        rw [← hyd] at c2 hgj1
        have hgl : (gen (2 * j) G).length ≤ 1048576 := by rw [gen_length]; omega
        have hgs : gen (2 * (j + 1)) G = gen (2 * j) G ++ [x, y] := by
          rw [show 2 * (j + 1) = 2 * j + 1 + 1 by omega, gen_succ, gen_succ, hgj, hgj1, List.append_assoc]
          rfl
        have HGS := Lib.hid hgs
        have HGL := Lib.hid hgl
        have HO := Lib.hid hown
        have HB := Lib.hid hbel
        have h0 : (0 : Int) ≤ (j : Int) := by omega
        have h1 : (j : Int) < (N : Int) := by omega
        clear hxd hyd hgj hgj1 hgl hgs hown hbel
        go_wp2_with (at_builtin; refine wpList_pushAll rfl _ _ rfl w.heap.size _ (gen (2 * j) G) rfl (HO.out.alloc _) _ [x, y] rfl (Or.inr ⟨by simp, wr.heap.size, 0, 2, rfl, by simp [maxLen], fun i hi => by match i, hi with | 0, _ => simp | 1, _ => simp⟩) HGL.out (by simp) w.heap.size w (HB.out.alloc HB.out.size _) (Nat.le_refl _) (by have := HB.out.size; simp; omega) (by have := HB.out.size; simp; omega) ?_; intro v2 w2 ho2 hb2)
        go_roundw
        case rel => exact ⟨j + 1, by omega, by go_num, by rw [HGS.out]; assumption, by assumption⟩
        case measure => simp [intOf]; omega
    · have he : j = N := by omega
      subst he
      have HO := Lib.hid hown
      have HB := Lib.hid hbel
      clear hown hbel
      go_wp2_with fail
      go_returns
      exact ⟨_, rfl, HO.out, HB.out⟩

theorem isSeq_weave (l m : List Int) (hs : isSeq l = true) (ht : isSeq m = true) (hlm : l.length = m.length) : isSeq (weaveG l m) = weaveC l m := by
  have hall : allIn (weaveG l m) 0 3 = true := by
    unfold allIn weaveG gen
    rw [List.all_eq_true]
    intro z hz
    simp only [List.mem_map, List.mem_range] at hz
    obtain ⟨i, hi, rfl⟩ := hz
    have a1 := allIn_getD (isSeq_all hs) (i / 2) (by omega)
    have a2 := allIn_getD (isSeq_all ht) (i / 2) (by omega)
    by_cases hp : i % 2 = 0
    · simp only [if_pos hp, inB, decide_eq_true a1.1, decide_eq_true a1.2, Bool.and_self]
    · simp only [if_neg hp, inB, decide_eq_true a2.1, decide_eq_true a2.2, Bool.and_self]
  unfold isSeq weaveC
  rw [hall, Bool.and_true, Bool.eq_iff_iff]
  simp [weaveG, gen_length]
  omega

theorem sweave_walk (va vb : Value) (l m : List Int) (w : World) (hva : IS w va l) (hvb : IS w vb m) (hlen : l.length ≤ 1048576) (hlem : m.length ≤ 1048576) (hb : bothB l m = true) (hs : isSeq l = true) (hlm : l.length = m.length) (E : Value → Value) (ok : Bool) (out : List Int)
    (hE : ∀ v w, IS w v (weaveG l m) → Calls Try.prog 164 #[v] w (Ret w (.tuple #[E v, .bool ok])))
    (hO : ∀ B v w, Own w B v (weaveG l m) → Own w B (E v) out) : Calls Try.prog 79 #[va, vb] w (MakesB w out ok) := by
  obtain ⟨a, cap, hveq⟩ := hva.shape
  obtain ⟨a', cap', hveq'⟩ := hvb.shape
  subst hveq hveq'
  have HE := Lib.hid hE
  have HO := Lib.hid hO
  have HLM := Lib.hid hlm
  clear hE hO hlm
  go_enter Try.func79, Try.ntmps79
  go_wp2_with (first
    | (go_at_call 136; refine (phBoth_any _ _ l m _ hva hvb hlen hlem).mono ?_; rintro e w1 ⟨rfl, hb1⟩)
    | (go_at_call 165; refine (phInterleave_any _ _ l m _ (hva.below hb1) (hvb.below hb1) hs HLM.out).mono ?_; rintro e w2 ⟨v2, rfl, ho2, hb2⟩; have hB2 := joins hb1 hb2)
    | (go_at_call 164; refine (HE.out _ _ ho2.is).mono ?_; rintro e w3 ⟨rfl, hb3⟩; have hB3 := joins hB2 hb3; have ho3 := HO.out _ _ _ (ho2.below hb3); have hsz := hb1.size))
  go_returns
  exact ⟨_, rfl, Own.mono ‹Own _ _ (E _) _› (by assumption), ‹Below w.heap.size w _›⟩

set_option maxHeartbeats 1000000 in
theorem sweave (va vb : Value) (l m : List Int) (w : World) (hva : IS w va l) (hvb : IS w vb m) (hlen : l.length ≤ 1048576) (hlem : m.length ≤ 1048576) : Calls Try.prog 79 #[va, vb] w (MakesB w (weaveF l m) (weaveOk l m)) := by
  by_cases hb : bothB l m = true
  · have hp := hb
    simp only [bothB, Bool.and_eq_true] at hp
    obtain ⟨⟨hs, ht⟩, hp3⟩ := hp
    have hlm := of_decide_eq_true hp3
    have he := isSeq_weave l m hs ht hlm
    by_cases hc : weaveC l m = true
    · have ho : weaveOk l m = true := by simp [weaveOk, hs, ht, hc]
      have hf : weaveF l m = weaveG l m := by simp [weaveF, ho]
      rw [ho, hf]
      exact sweave_walk va vb l m w hva hvb hlen hlem hb hs hlm (fun v => v) true (weaveG l m) (fun v w h => phOr_yes v (weaveG l m) w h (by rw [he]; exact hc)) (fun B v w h => h)
    · have hc2 : weaveC l m = false := by simpa using hc
      have ho : weaveOk l m = false := by simp [weaveOk, hc2]
      have hf : weaveF l m = [] := by simp [weaveF, ho]
      rw [ho, hf]
      exact sweave_walk va vb l m w hva hvb hlen hlem hb hs hlm (fun _ => .slice none 0 0) false [] (fun v w h => phOr_no v (weaveG l m) w h (by rw [he]; exact hc2) (by have := isSeq_len hs; simp [weaveG, gen_length]; omega)) (fun B _ w _ => World.ownsRow_nil w B _ _)
  · have hb2 : bothB l m = false := by simpa using hb
    have ho : weaveOk l m = false := by
      unfold weaveOk weaveC
      unfold bothB at hb2
      cases h1 : isSeq l <;> cases h2 : isSeq m <;> simp [h1, h2] at hb2 ⊢
      omega
    have hf : weaveF l m = [] := by simp [weaveF, ho]
    rw [ho, hf]
    obtain ⟨a, cap, hveq⟩ := hva.shape
    obtain ⟨a', cap', hveq'⟩ := hvb.shape
    subst hveq hveq'
    clear ho hf hb
    go_enter Try.func79, Try.ntmps79
    go_wp2_with (go_at_call 136; refine (phBoth_any _ _ l m _ hva hvb hlen hlem).mono ?_; rintro e w1 ⟨rfl, hb1⟩)
    go_returns
    exact ⟨_, rfl, World.ownsRow_nil _ _ _ _, ‹_›⟩
end
section
open Go.RowKit

set_option maxHeartbeats 2000000 in
theorem phTurn_any (v : Value) (l : List Int) (k : Int) (w : World) (hv : IS w v l) (hs : isSeq l = true) (hk1 : -1000 ≤ k) (hk2 : k ≤ 1000) : Calls Try.prog 112 #[v, .int .i64 k] w (Makes w (turnG l k)) := by
  have h32 := isSeq_len hs
  have hall := isSeq_all hs
  have HALL := Lib.hid hall
  obtain ⟨a, cap, hveq⟩ : ∃ a cap, v = .slice a l.length cap := by rcases hv with ⟨rfl, a, cap, rfl⟩ | ⟨_, b, off, cap, rfl, _⟩ <;> exact ⟨_, _, rfl⟩
  subst hveq
  have HV := Lib.hid hv
  obtain ⟨N, hN⟩ : ∃ N, N = l.length := ⟨_, rfl⟩
  obtain ⟨G, hG⟩ : ∃ G : Nat → Int, G = fun (i : Nat) => (l.getD i 0 + k) % 4 := ⟨_, rfl⟩
  have hgoal : turnG l k = gen N G := by rw [hN, hG]; rfl
  rw [hgoal]
  rw [← hN] at HV h32 ⊢
  have HN := Lib.hid hN
  have HG := Lib.hid hG
  clear hgoal hN hG hs hall hv
  go_enter Try.func112, Try.ntmps112
  go_wp2_with fail
  go_loopw [10, 5] (fun i o wr => ∃ j : Nat, j ≤ N ∧ i = .int .i64 j ∧ Own wr w.heap.size o (gen j G) ∧ Below w.heap.size w wr) (fun i _ _ => N - (intOf i).toNat)
  case atStart => exact ⟨0, Nat.zero_le _, rfl, World.ownsRow_nil _ _ _ _, Below.refl _ _⟩
  case round =>
    obtain ⟨j, hj, rfl, hown, hbel⟩ := hrel
    by_cases hlt : j < N
    · have h0 : (0 : Int) ≤ (j : Int) := by omega
      have h1 : (j : Int) < (N : Int) := by omega
      have hn32 : (N : Int) ≤ 32 := by omega
      have hM2 := hlt
      have hltl : j < l.length := by rw [← HN.out]; exact hM2
      have hx := allIn_getD HALL.out j hltl
      have hv2 := HV.out.below hbel
      rcases hv2 with ⟨h0, _⟩ | ⟨_, b, off, cap', hveq, _, hc⟩
      · rw [h0] at hltl; exact absurd hltl (Nat.not_lt_zero _)
      · simp only [Value.slice.injEq] at hveq
        obtain ⟨rfl, hnn, rfl⟩ := hveq
        clear hnn
        have c1 := hc j hltl
        clear hc
        have hgj : G j = (l.getD j 0 + k) % 4 := by rw [HG.out]
        obtain ⟨x, hxd⟩ : ∃ x, x = l.getD j 0 := ⟨_, rfl⟩
        rw [← hxd] at c1 hx hgj
        have hgl : (gen j G).length ≤ 1048576 := by rw [gen_length]; omega
        have hgs := gen_succ j G
        rw [hgj] at hgs
        have HGS := Lib.hid hgs
        have HGL := Lib.hid hgl
        have HO := Lib.hid hown
        have HB := Lib.hid hbel
        obtain ⟨hx1, hx2⟩ := hx
        clear hxd hgj hgl hgs hown hbel
        go_wp2_with (first
          | (go_at_call 184; refine (phMod_any _ (by omega) (by omega) _).mono ?_; rintro e w' ⟨rfl, rfl⟩)
          | (at_builtin; refine wpList_push rfl _ _ rfl w.heap.size _ (gen j G) rfl (HO.out.alloc _) wr.heap.size 1 ((x + k) % 4) rfl (by simp) HGL.out w.heap.size w (HB.out.alloc HB.out.size _) (Nat.le_refl _) (by have := HB.out.size; simp; omega) (by have := HB.out.size; simp; omega) ?_; intro v2 w2 ho2 hb2))
        go_roundw
        case rel => exact ⟨j + 1, by omega, by go_num, by rw [HGS.out]; assumption, by assumption⟩
        case measure => simp [intOf]; omega
    · have he : j = N := by omega
      subst he
      have HO := Lib.hid hown
      have HB := Lib.hid hbel
      clear hown hbel
      go_wp2_with fail
      go_returns
      exact ⟨_, rfl, HO.out, HB.out⟩

end
section
open Go.RowKit

set_option maxHeartbeats 2000000 in
theorem phClimb_any (v : Value) (l : List Int) (k : Int) (w : World) (hv : IS w v l) (hs : isSeq l = true) (hk1 : 0 ≤ k) (hk2 : k ≤ 3) : Calls Try.prog 123 #[v, .int .i64 k] w (Makes w (climbG l k)) := by
  have h32 := isSeq_len hs
  have hall := isSeq_all hs
  have HALL := Lib.hid hall
  obtain ⟨a, cap, hveq⟩ : ∃ a cap, v = .slice a l.length cap := by rcases hv with ⟨rfl, a, cap, rfl⟩ | ⟨_, b, off, cap, rfl, _⟩ <;> exact ⟨_, _, rfl⟩
  subst hveq
  have HV := Lib.hid hv
  obtain ⟨N, hN⟩ : ∃ N, N = l.length := ⟨_, rfl⟩
  obtain ⟨G, hG⟩ : ∃ G : Nat → Int, G = fun (i : Nat) => (l.getD i 0 + k * i) % 4 := ⟨_, rfl⟩
  have hgoal : climbG l k = gen N G := by rw [hN, hG]; rfl
  rw [hgoal]
  rw [← hN] at HV h32 ⊢
  have HN := Lib.hid hN
  have HG := Lib.hid hG
  clear hgoal hN hG hs hall hv
  go_enter Try.func123, Try.ntmps123
  go_wp2_with fail
  go_loopw [10, 5] (fun i o wr => ∃ j : Nat, j ≤ N ∧ i = .int .i64 j ∧ Own wr w.heap.size o (gen j G) ∧ Below w.heap.size w wr) (fun i _ _ => N - (intOf i).toNat)
  case atStart => exact ⟨0, Nat.zero_le _, rfl, World.ownsRow_nil _ _ _ _, Below.refl _ _⟩
  case round =>
    obtain ⟨j, hj, rfl, hown, hbel⟩ := hrel
    by_cases hlt : j < N
    · have h0 : (0 : Int) ≤ (j : Int) := by omega
      have h1 : (j : Int) < (N : Int) := by omega
      have hn32 : (N : Int) ≤ 32 := by omega
      have hM2 := hlt
      have hltl : j < l.length := by rw [← HN.out]; exact hM2
      have hx := allIn_getD HALL.out j hltl
      have hv2 := HV.out.below hbel
      rcases hv2 with ⟨h0, _⟩ | ⟨_, b, off, cap', hveq, _, hc⟩
      · rw [h0] at hltl; exact absurd hltl (Nat.not_lt_zero _)
      · simp only [Value.slice.injEq] at hveq
        obtain ⟨rfl, hnn, rfl⟩ := hveq
        clear hnn
        have c1 := hc j hltl
        clear hc
        have hgj : G j = (l.getD j 0 + k * j) % 4 := by rw [HG.out]
        obtain ⟨x, hxd⟩ : ∃ x, x = l.getD j 0 := ⟨_, rfl⟩
        rw [← hxd] at c1 hx hgj
        have hgl : (gen j G).length ≤ 1048576 := by rw [gen_length]; omega
        have hgs := gen_succ j G
        rw [hgj] at hgs
        have HGS := Lib.hid hgs
        have HGL := Lib.hid hgl
        have HO := Lib.hid hown
        have HB := Lib.hid hbel
        obtain ⟨hx1, hx2⟩ := hx
        have hkj1 : 0 ≤ k * (j : Int) := Int.mul_nonneg hk1 h0
        have hkj2 : k * (j : Int) ≤ 96 := by
          have := Int.mul_le_mul hk2 (show (j : Int) ≤ 32 by omega) h0 (by omega)
          omega
        clear hxd hgj hgl hgs hown hbel
        go_wp2_with (first
          | (go_at_call 184; refine (phMod_any _ (by omega) (by omega) _).mono ?_; rintro e w' ⟨rfl, rfl⟩)
          | (at_builtin; refine wpList_push rfl _ _ rfl w.heap.size _ (gen j G) rfl (HO.out.alloc _) wr.heap.size 1 ((x + k * j) % 4) rfl (by simp) HGL.out w.heap.size w (HB.out.alloc HB.out.size _) (Nat.le_refl _) (by have := HB.out.size; simp; omega) (by have := HB.out.size; simp; omega) ?_; intro v2 w2 ho2 hb2))
        go_roundw
        case rel => exact ⟨j + 1, by omega, by go_num, by rw [HGS.out]; assumption, by assumption⟩
        case measure => simp [intOf]; omega
    · have he : j = N := by omega
      subst he
      have HO := Lib.hid hown
      have HB := Lib.hid hbel
      clear hown hbel
      go_wp2_with fail
      go_returns
      exact ⟨_, rfl, HO.out, HB.out⟩

end
section
open Go.RowKit

set_option maxHeartbeats 2000000 in
theorem phConjugate_any (v : Value) (l : List Int) (w : World) (hv : IS w v l) (hs : isSeq l = true) : Calls Try.prog 124 #[v] w (Makes w (barG l)) := by
  have h32 := isSeq_len hs
  have hall := isSeq_all hs
  have HALL := Lib.hid hall
  obtain ⟨a, cap, hveq⟩ : ∃ a cap, v = .slice a l.length cap := by rcases hv with ⟨rfl, a, cap, rfl⟩ | ⟨_, b, off, cap, rfl, _⟩ <;> exact ⟨_, _, rfl⟩
  subst hveq
  have HV := Lib.hid hv
  obtain ⟨N, hN⟩ : ∃ N, N = l.length := ⟨_, rfl⟩
  obtain ⟨G, hG⟩ : ∃ G : Nat → Int, G = fun (i : Nat) => (-(l.getD i 0)) % 4 := ⟨_, rfl⟩
  have hgoal : barG l = gen N G := by rw [hN, hG]; rfl
  rw [hgoal]
  rw [← hN] at HV h32 ⊢
  have HN := Lib.hid hN
  have HG := Lib.hid hG
  clear hgoal hN hG hs hall hv
  go_enter Try.func124, Try.ntmps124
  go_wp2_with fail
  go_loopw [8, 3] (fun i o wr => ∃ j : Nat, j ≤ N ∧ i = .int .i64 j ∧ Own wr w.heap.size o (gen j G) ∧ Below w.heap.size w wr) (fun i _ _ => N - (intOf i).toNat)
  case atStart => exact ⟨0, Nat.zero_le _, rfl, World.ownsRow_nil _ _ _ _, Below.refl _ _⟩
  case round =>
    obtain ⟨j, hj, rfl, hown, hbel⟩ := hrel
    by_cases hlt : j < N
    · have h0 : (0 : Int) ≤ (j : Int) := by omega
      have h1 : (j : Int) < (N : Int) := by omega
      have hn32 : (N : Int) ≤ 32 := by omega
      have hM2 := hlt
      have hltl : j < l.length := by rw [← HN.out]; exact hM2
      have hx := allIn_getD HALL.out j hltl
      have hv2 := HV.out.below hbel
      rcases hv2 with ⟨h0, _⟩ | ⟨_, b, off, cap', hveq, _, hc⟩
      · rw [h0] at hltl; exact absurd hltl (Nat.not_lt_zero _)
      · simp only [Value.slice.injEq] at hveq
        obtain ⟨rfl, hnn, rfl⟩ := hveq
        clear hnn
        have c1 := hc j hltl
        clear hc
        have hgj : G j = (-(l.getD j 0)) % 4 := by rw [HG.out]
        obtain ⟨x, hxd⟩ : ∃ x, x = l.getD j 0 := ⟨_, rfl⟩
        rw [← hxd] at c1 hx hgj
        have hgl : (gen j G).length ≤ 1048576 := by rw [gen_length]; omega
        have hgs := gen_succ j G
        rw [hgj] at hgs
        have HGS := Lib.hid hgs
        have HGL := Lib.hid hgl
        have HO := Lib.hid hown
        have HB := Lib.hid hbel
        obtain ⟨hx1, hx2⟩ := hx
        clear hxd hgj hgl hgs hown hbel
        go_wp2_with (first
          | (go_at_call 184; refine (phMod_any _ (by omega) (by omega) _).mono ?_; rintro e w' ⟨rfl, rfl⟩)
          | (at_builtin; refine wpList_push rfl _ _ rfl w.heap.size _ (gen j G) rfl (HO.out.alloc _) wr.heap.size 1 ((-x) % 4) rfl (by simp) HGL.out w.heap.size w (HB.out.alloc HB.out.size _) (Nat.le_refl _) (by have := HB.out.size; simp; omega) (by have := HB.out.size; simp; omega) ?_; intro v2 w2 ho2 hb2))
        go_roundw
        case rel => exact ⟨j + 1, by omega, by go_num, by rw [HGS.out]; assumption, by assumption⟩
        case measure => simp [intOf]; omega
    · have he : j = N := by omega
      subst he
      have HO := Lib.hid hown
      have HB := Lib.hid hbel
      clear hown hbel
      go_wp2_with fail
      go_returns
      exact ⟨_, rfl, HO.out, HB.out⟩

end
section
open Go.RowKit

set_option maxHeartbeats 2000000 in
theorem phBack_any (v : Value) (l : List Int) (w : World) (hv : IS w v l) (hs : isSeq l = true) : Calls Try.prog 125 #[v] w (Makes w (backG l)) := by
  have h32 := isSeq_len hs
  have hall := isSeq_all hs
  have HALL := Lib.hid hall
  obtain ⟨a, cap, hveq⟩ : ∃ a cap, v = .slice a l.length cap := by rcases hv with ⟨rfl, a, cap, rfl⟩ | ⟨_, b, off, cap, rfl, _⟩ <;> exact ⟨_, _, rfl⟩
  subst hveq
  have HV := Lib.hid hv
  obtain ⟨N, hN⟩ : ∃ N, N = l.length := ⟨_, rfl⟩
  obtain ⟨G, hG⟩ : ∃ G : Nat → Int, G = fun (i : Nat) => l.getD (l.length - 1 - i) 0 := ⟨_, rfl⟩
  have hgoal : backG l = gen N G := by rw [hN, hG]; rfl
  rw [hgoal]
  rw [← hN] at HV h32 ⊢
  have HN := Lib.hid hN
  have HG := Lib.hid hG
  clear hgoal hN hG hs hall hv
  go_enter Try.func125, Try.ntmps125
  go_wp2_with fail
  go_loopw [4, 3] (fun i o wr => ∃ j : Nat, j ≤ N ∧ i = .int .i64 ((N : Int) - 1 - j) ∧ Own wr w.heap.size o (gen j G) ∧ Below w.heap.size w wr) (fun i _ _ => ((intOf i) + 1).toNat)
  case atStart => exact ⟨0, Nat.zero_le _, by go_num, World.ownsRow_nil _ _ _ _, Below.refl _ _⟩
  case round =>
    obtain ⟨j, hj, rfl, hown, hbel⟩ := hrel
    by_cases hlt : j < N
    · have h0 : (0 : Int) ≤ (j : Int) := by omega
      have h1 : (j : Int) < (N : Int) := by omega
      have hn32 : (N : Int) ≤ 32 := by omega
      obtain ⟨M, hM⟩ : ∃ M : Nat, M + j + 1 = N := ⟨N - 1 - j, by omega⟩
      have hM2 : M < N := by omega
      have hMi : (N : Int) - 1 - (j : Int) = (M : Int) := by omega
      have hMn : l.length - 1 - j = M := by rw [← HN.out]; omega
      have HMN := Lib.hid hMn
      rw [hMi]
      have HM := Lib.hid hM
      clear hMi hMn hM
      have hltl : M < l.length := by rw [← HN.out]; exact hM2
      have hx := allIn_getD HALL.out M hltl
      have hv2 := HV.out.below hbel
      rcases hv2 with ⟨h0, _⟩ | ⟨_, b, off, cap', hveq, _, hc⟩
      · rw [h0] at hltl; exact absurd hltl (Nat.not_lt_zero _)
      · simp only [Value.slice.injEq] at hveq
        obtain ⟨rfl, hnn, rfl⟩ := hveq
        clear hnn
        have c1 := hc M hltl
        clear hc
        have hgj : G j = l.getD M 0 := by rw [HG.out]; show l.getD (l.length - 1 - j) 0 = _; rw [HMN.out]
        obtain ⟨x, hxd⟩ : ∃ x, x = l.getD M 0 := ⟨_, rfl⟩
        rw [← hxd] at c1 hx hgj
        have hgl : (gen j G).length ≤ 1048576 := by rw [gen_length]; omega
        have hgs := gen_succ j G
        rw [hgj] at hgs
        have HGS := Lib.hid hgs
        have HGL := Lib.hid hgl
        have HO := Lib.hid hown
        have HB := Lib.hid hbel
        obtain ⟨hx1, hx2⟩ := hx
        have hM4 : (0 : Int) ≤ (M : Int) := by omega
        have hM5 : (M : Int) < (N : Int) := by omega
        clear hxd hgj hgl hgs hown hbel
        go_wp2_with (first
          | (at_builtin; refine wpList_push rfl _ _ rfl w.heap.size _ (gen j G) rfl (HO.out.alloc _) wr.heap.size 1 (x) rfl (by simp) HGL.out w.heap.size w (HB.out.alloc HB.out.size _) (Nat.le_refl _) (by have := HB.out.size; simp; omega) (by have := HB.out.size; simp; omega) ?_; intro v2 w2 ho2 hb2))
        go_roundw
        case rel =>
          have := HM.out
          exact ⟨j + 1, by omega, by go_num, by rw [HGS.out]; assumption, by assumption⟩
        case measure => simp [intOf]
    · have he : j = N := by omega
      subst he
      have HO := Lib.hid hown
      have HB := Lib.hid hbel
      clear hown hbel
      have hneg : (j : Int) - 1 - (j : Int) = -1 := by omega
      rw [hneg]
      clear hneg
      go_wp2_with fail
      go_returns
      exact ⟨_, rfl, HO.out, HB.out⟩

end
end Go.Proofs.Ytfjhocmnafdnfaa
