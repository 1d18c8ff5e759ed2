/- The model's ProductOf. -/
import Derived.Test.YtkkcdabcoafflabPush
import Derived.Test.YtkkcdabcoafflabDProductOf
namespace Go.Proofs.Ytkkcdabcoafflab
open Go.RowKit

set_option maxHeartbeats 2000000 in
theorem phProduct_any (va vb : Value) (l m : List Int) (w : World) (hva : IS w va l) (hvb : IS w vb m) (hs : isSeq l = true) (ht : isSeq m = true) (hlm : l.length = m.length) : Calls Try.prog 49 #[va, vb] w (Makes w (prodG l m)) := by
  have h32 := isSeq_len hs
  have HALL := Lib.hid (isSeq_all hs)
  have HALM := Lib.hid (isSeq_all ht)
  obtain ⟨a, cap, hveq⟩ : ∃ a cap, va = .slice a l.length cap := by rcases hva with ⟨rfl, a, cap, rfl⟩ | ⟨_, b, off, cap, rfl, _⟩ <;> exact ⟨_, _, rfl⟩
  obtain ⟨a', cap', hveq'⟩ : ∃ a cap, vb = .slice a m.length cap := by rcases hvb with ⟨rfl, a, cap, rfl⟩ | ⟨_, b, off, cap, rfl, _⟩ <;> exact ⟨_, _, rfl⟩
  subst hveq hveq'
  have HVA := Lib.hid hva
  have HVB := Lib.hid hvb
  obtain ⟨N, hN⟩ : ∃ N, N = l.length := ⟨_, rfl⟩
  obtain ⟨G, hG⟩ : ∃ G : Nat → Int, G = fun (i : Nat) => (l.getD i 0 + m.getD i 0) % 4 := ⟨_, rfl⟩
  have hgoal : prodG l m = gen N G := by rw [hN, hG]; rfl
  rw [hgoal]
  rw [← hlm] at HVB ⊢
  rw [← hN] at HVA HVB h32 ⊢
  have HN := Lib.hid hN
  have HG := Lib.hid hG
  have HLM := Lib.hid hlm
  clear hgoal hN hG hs ht hva hvb hlm
  go_enter Try.func49, Try.ntmps49
  go_wp2_with fail
  go_loopw [10, 5] (fun i o wr => ∃ j : Nat, j ≤ N ∧ i = .int .i64 j ∧ Own wr w.heap.size o (gen j G) ∧ Below w.heap.size w wr) (fun i _ _ => N - (intOf i).toNat)
  case atStart => exact ⟨0, Nat.zero_le _, rfl, World.ownsRow_nil _ _ _ _, Below.refl _ _⟩
  case round =>
    obtain ⟨j, hj, rfl, hown, hbel⟩ := hrel
    by_cases hlt : j < N
    · have hltl : j < l.length := by rw [← HN.out]; exact hlt
      have hltm : j < m.length := by rw [← HLM.out]; exact hltl
      have hx := allIn_getD HALL.out j hltl
      have hy := allIn_getD HALM.out j hltm
      have hva2 := HVA.out.below hbel
      have hvb2 := HVB.out.below hbel
      rcases hva2 with ⟨h0, _⟩ | ⟨_, b, off, capa, hveq, _, hc⟩
      · rw [h0] at hltl; exact absurd hltl (Nat.not_lt_zero _)
      rcases hvb2 with ⟨h0, _⟩ | ⟨_, b2, off2, capb, hveq2, _, hc2⟩
      · rw [h0] at hltm; exact absurd hltm (Nat.not_lt_zero _)
      · simp only [Value.slice.injEq] at hveq hveq2
        obtain ⟨rfl, hnn, rfl⟩ := hveq
        obtain ⟨rfl, hnn2, rfl⟩ := hveq2
        clear hnn hnn2
        have c1 := hc j hltl
        have c2 := hc2 j hltm
        clear hc hc2
        have hgj : G j = (l.getD j 0 + m.getD j 0) % 4 := by rw [HG.out]
        obtain ⟨x, hxd⟩ : ∃ x, x = l.getD j 0 := ⟨_, rfl⟩
        obtain ⟨y, hyd⟩ : ∃ y, y = m.getD j 0 := ⟨_, rfl⟩
        rw [← hxd] at c1 hx hgj
        rw [← hyd] at c2 hy hgj
        have hgl : (gen j G).length ≤ 1048576 := by rw [gen_length]; omega
        have hgs := gen_succ j G
        rw [hgj] at hgs
        have HGS := Lib.hid hgs
        have HGL := Lib.hid hgl
        have HO := Lib.hid hown
        have HB := Lib.hid hbel
        have h0 : (0 : Int) ≤ (j : Int) := by omega
        have h1 : (j : Int) < (N : Int) := by omega
        obtain ⟨hx1, hx2⟩ := hx
        obtain ⟨hy1, hy2⟩ := hy
        clear hxd hyd hgj hgl hgs hown hbel
        go_wp2_with (first
          | (go_at_call 58; refine (phMod_any _ (by omega) (by omega) _).mono ?_; rintro e w' ⟨rfl, rfl⟩)
          | (at_builtin; refine wpList_push rfl _ _ rfl w.heap.size _ (gen j G) rfl (HO.out.alloc _) wr.heap.size 1 ((x + y) % 4) rfl (by simp) HGL.out w.heap.size w (HB.out.alloc HB.out.size _) (Nat.le_refl _) (by have := HB.out.size; simp; omega) (by have := HB.out.size; simp; omega) ?_; intro v2 w2 ho2 hb2))
        go_roundw
        case rel => exact ⟨j + 1, by omega, by go_num, by rw [HGS.out]; assumption, by assumption⟩
        case measure => simp [intOf]; omega
    · have he : j = N := by omega
      subst he
      have HO := Lib.hid hown
      have HB := Lib.hid hbel
      clear hown hbel
      go_wp2_with fail
      go_returns
      exact ⟨_, rfl, HO.out, HB.out⟩

/-- Both are sequences, of one length. -/
def bothB (l m : List Int) : Bool := isSeq l && isSeq m && decide (l.length = m.length)
set_option maxHeartbeats 1000000 in
theorem phBoth_any (va vb : Value) (l m : List Int) (w : World) (hva : IS w va l) (hvb : IS w vb m) (hlen : l.length ≤ 1048576) (hlem : m.length ≤ 1048576) : Calls Try.prog 46 #[va, vb] w (Ret w (.bool (bothB l m))) := by
  obtain ⟨a, cap, hveq⟩ : ∃ a cap, va = .slice a l.length cap := by rcases hva with ⟨rfl, a, cap, rfl⟩ | ⟨_, b, off, cap, rfl, _⟩ <;> exact ⟨_, _, rfl⟩
  obtain ⟨a', cap', hveq'⟩ : ∃ a cap, vb = .slice a m.length cap := by rcases hvb with ⟨rfl, a, cap, rfl⟩ | ⟨_, b, off, cap, rfl, _⟩ <;> exact ⟨_, _, rfl⟩
  subst hveq hveq'
  by_cases hs : isSeq l = true
  · by_cases ht : isSeq m = true
    · have tok1 : True := trivial
      go_enter Try.func46, Try.ntmps46
      go_wp2_with (first
        | (go_at_call 35; have _t := tok1; refine (phIs_any _ l _ hva hlen).mono ?_; rintro e w1 ⟨rfl, hb1⟩; clear tok1)
        | (go_at_call 35; refine (phIs_any _ m _ (hvb.below hb1) hlem).mono ?_; rintro e w2 ⟨rfl, hb2⟩; have hB2 := joins hb1 hb2))
      go_returns
      exact ⟨ret_bool (by by_cases e : l.length = m.length <;> simp [bothB, hs, ht, e] <;> omega), ‹Below w.heap.size w _›⟩
    · have ht2 : isSeq m = false := by simpa using ht
      clear ht
      have tok1 : True := trivial
      go_enter Try.func46, Try.ntmps46
      go_wp2_with (first
        | (go_at_call 35; have _t := tok1; refine (phIs_any _ l _ hva hlen).mono ?_; rintro e w1 ⟨rfl, hb1⟩; clear tok1)
        | (go_at_call 35; refine (phIs_any _ m _ (hvb.below hb1) hlem).mono ?_; rintro e w2 ⟨rfl, hb2⟩; have hB2 := joins hb1 hb2))
      go_returns
      exact ⟨ret_bool (by simp [bothB, ht2]), ‹Below w.heap.size w _›⟩
  · have hs2 : isSeq l = false := by simpa using hs
    clear hs
    go_enter Try.func46, Try.ntmps46
    go_wp2_with (go_at_call 35; refine (phIs_any _ l _ hva hlen).mono ?_; rintro e w1 ⟨rfl, hb1⟩)
    go_returns
    exact ⟨ret_bool (by simp [bothB, hs2]), ‹_›⟩

set_option maxHeartbeats 1000000 in
theorem sprod (va vb : Value) (l m : List Int) (w : World) (hva : IS w va l) (hvb : IS w vb m) (hlen : l.length ≤ 1048576) (hlem : m.length ≤ 1048576) : Calls Try.prog 25 #[va, vb] w (MakesB w (prodF l m) (prodOk l m)) := by
  obtain ⟨a, cap, hveq⟩ : ∃ a cap, va = .slice a l.length cap := by rcases hva with ⟨rfl, a, cap, rfl⟩ | ⟨_, b, off, cap, rfl, _⟩ <;> exact ⟨_, _, rfl⟩
  obtain ⟨a', cap', hveq'⟩ : ∃ a cap, vb = .slice a m.length cap := by rcases hvb with ⟨rfl, a, cap, rfl⟩ | ⟨_, b, off, cap, rfl, _⟩ <;> exact ⟨_, _, rfl⟩
  subst hveq hveq'
  have he : prodOk l m = bothB l m := rfl
  by_cases hb : bothB l m = true
  · have hf : prodF l m = prodG l m := by simp [prodF, he, hb]
    rw [he, hb, hf]
    have hp := hb
    simp only [bothB, Bool.and_eq_true] at hp
    obtain ⟨⟨hp1, hp2⟩, hp3⟩ := hp
    have hp4 := of_decide_eq_true hp3
    have HP1 := Lib.hid hp1
    have HP2 := Lib.hid hp2
    have HP4 := Lib.hid hp4
    clear hf he hp1 hp2 hp3 hp4
    go_enter Try.func25, Try.ntmps25
    go_wp2_with (first
      | (go_at_call 46; refine (phBoth_any _ _ l m _ hva hvb hlen hlem).mono ?_; rintro e w1 ⟨rfl, hb1⟩)
      | (go_at_call 49; refine (phProduct_any _ _ l m _ (hva.below hb1) (hvb.below hb1) HP1.out HP2.out HP4.out).mono ?_; rintro e w2 ⟨v2, rfl, ho2, hb2⟩))
    go_returns
    exact ⟨_, rfl, Own.mono ‹Own _ _ _ _› hb1.size, joins hb1 ‹_›⟩
  · have hb2 : bothB l m = false := by simpa using hb
    have hf : prodF l m = [] := by simp [prodF, he, hb2]
    rw [he, hb2, hf]
    clear hf he hb
    go_enter Try.func25, Try.ntmps25
    go_wp2_with (go_at_call 46; refine (phBoth_any _ _ l m _ hva hvb hlen hlem).mono ?_; rintro e w1 ⟨rfl, hb1⟩)
    go_returns
    exact ⟨_, rfl, World.ownsRow_nil _ _ _ _, ‹_›⟩
end Go.Proofs.Ytkkcdabcoafflab
