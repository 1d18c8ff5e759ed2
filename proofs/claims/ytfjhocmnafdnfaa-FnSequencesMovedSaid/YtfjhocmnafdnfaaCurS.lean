/- Sequences drawn. -/
import Derived.Test.YtfjhocmnafdnfaaCur
import Derived.Test.YtfjhocmnafdnfaaPuK
import Derived.Test.YtfjhocmnafdnfaaSConjugateOf
namespace Go.Proofs.Ytfjhocmnafdnfaa
set_option maxRecDepth 100000
open Go.RowKit

/-- What is made or written behind a world stays out of it. -/
theorem grown_own {w w1 w2 : World} {row row2 : Option Nat} (h : w.grownBy w1 row) (h' : w1.grownBy w2 row2) (hr : ∀ k, row2 = some k → w.heap.size ≤ k) : w.grownBy w2 row :=
  ⟨h'.os.trans h.os, h'.tape.trans h.tape, h'.output.trans h.output, Nat.le_trans h.size h'.size, fun k hk hne => (h'.block k (Nat.lt_of_lt_of_le hk h.size) (fun e => by have := hr k e.symm; omega)).trans (h.block k hk hne)⟩
theorem grown_alloc {w w' : World} {row : Option Nat} (h : w.grownBy w' row) (o : Obj) : w.grownBy (w'.alloc o) row := grown_trans h (grown_of_below (belowa (Below.refl _ _) o) row)
theorem cell_new_1 (w : World) (v : Value) (t : TypeId) : (w.alloc (.cells #[v] t)).cell? ⟨w.heap.size, 0, none⟩ = some v := by rw [World.cell?_alloc_new]; rfl
/-- A list of the call's own; how long at most, and its numbers. -/
def SeqV (B M : Nat) (v : Value) (w : World) : Prop := ∃ s : List Int, Own w B v s ∧ s.length ≤ M
set_option maxRecDepth 100000 in
set_option maxHeartbeats 4000000 in
theorem sure_any (g : Nat) (cv : Value) (l : List Int) (n : Nat) (w : World) (M : Nat) (h : Cu g cv l n w) (hn : n ≤ 1152921504606840000) (hM : M ≤ 1000) :
    Calls Try.prog 171 #[.pointer (some ⟨g, 0, none⟩), .int .i64 M] w (Dr g cv l (n + 2 * M) w (fun v w' => ∃ s : List Int, Own w' w.heap.size v s ∧ s.length = M ∧ ∀ x ∈ s, 0 ≤ x ∧ x ≤ 3)) := by
  have LT := h.lt
  have HC := Lib.hid h
  clear h
  go_enter Try.func171, Try.ntmps171
  go_wp2_with fail
  go_loopw [1, 5] (fun q o wr => ∃ (k : Nat) (s : List Int), k + s.length = M ∧ q = .int .i64 k ∧ Own wr w.heap.size o s ∧ (∀ x ∈ s, 0 ≤ x ∧ x ≤ 3) ∧ Cu g cv l (n + 2 * s.length) wr ∧ w.grownBy wr (some g)) (fun q _ _ => (intOf q).toNat)
  case atStart => exact ⟨M, [], by simp, rfl, World.ownsRow_nil _ _ _ _, by simp, HC.out.more (by simp), World.grownBy.refl _ _⟩
  case round =>
    obtain ⟨k, s, hk, rfl, hown, hall, hcu, hgr⟩ := hrel
    have HO := Lib.hid hown
    have HA := Lib.hid hall
    have HG := Lib.hid hgr
    have HCU := Lib.hid hcu
    obtain ⟨pa, ca, hsh⟩ := hown.is.shape
    have HSH := Lib.hid hsh
    subst hsh
    clear hown hall hgr hcu
    by_cases hpos : 0 < k
    · have h0 : (0 : Int) < (k : Int) := by omega
      have P := Lib.hid (pick_any g cv l (n + 2 * s.length) wr 4 HCU.out (by omega) (by omega) (by omega))
      have HSL := Lib.hid (show s.length ≤ 1048576 by omega)
      have HK := Lib.hid hk
      have hk1 : (k : Int) ≤ 1000 := by omega
      obtain ⟨S, hS⟩ : ∃ S, S = s.length := ⟨_, rfl⟩
      have HS := Lib.hid hS
      clear hk hS
      go_wp2_with (first
        | (refine P.out.mono ?_; rintro e w2 ⟨v2, rfl, ⟨x, rfl, hx0, hx1⟩, hc2, hg2⟩; have HC2 := Lib.hid hc2; have HG2 := Lib.hid (grown_tr HG.out hg2); have HX := Lib.hid (And.intro hx0 hx1); have HO2 := Lib.hid (HO.out.grown hg2 (fun k hk e => by cases e; have := (HO.out.lt g hk).1; omega)); have S2 := Lib.hid HG2.out.size; clear hc2 hg2 hx0 hx1)
        | (at_builtin; refine wpList_pushK rfl _ _ rfl w.heap.size _ s rfl (HO2.out.alloc' _) w2.heap.size 1 x rfl (cell_new_1 _ _ _) HSL.out 0 w2 ((belowa (Below.refl _ _) _).mono (Nat.zero_le _)) (Nat.zero_le _) (by have := S2.out; simp; omega) (Nat.zero_le _) ?_; intro v4 w4 ho4 hb4 hg4; have HO4 := Lib.hid ho4; have HG4 := Lib.hid (grown_own (grown_alloc HG2.out _) hg4 (fun k hk => (HO2.out.lt k hk).1)); have HC4 := Lib.hid ((HC2.out.below (belowa (Below.refl _ _) _)).grown hg4 (fun k hk => by have := (HO2.out.lt k hk).1; omega)); clear ho4 hb4 hg4))
      go_roundw
      case rel => exact ⟨k - 1, s ++ [x], by rw [List.length_append]; have := HK.out; simp; omega, by go_num, HO4.out, fun y hy => by rcases List.mem_append.1 hy with h | h; exact HA.out y h; simp at h; subst h; have := HX.out; omega, HC4.out.more (by rw [List.length_append]; simp; omega), HG4.out⟩
      case measure => simp [intOf]; omega
    · obtain rfl : k = 0 := by omega
      go_wp2_with fail
      go_returns
      exact ⟨_, rfl, ⟨s, HO.out, by omega, HA.out⟩, HCU.out.more (by omega), HG.out⟩
theorem IS.lit {w : World} {B : Nat} {l : List Int} (h : w.heap[B]? = some (.cells (l.map (Value.int .i64)).toArray 3 (0, 0))) (hl : l.length ≤ maxLen) : IS w (.slice (some ⟨B, 0, none⟩) l.length l.length) l := (own_lit (Nat.le_refl _) h hl).is
theorem sure_seq {s : List Int} (h : ∀ x ∈ s, 0 ≤ x ∧ x ≤ 3) (hl : s.length ≤ 32) : isSeq s = true := isSeq_of hl (by unfold allIn; refine List.all_eq_true.2 (fun x hx => ?_); have := h x hx; simp [inB, this])
theorem Own.kept {w w' : World} {B g : Nat} {v : Value} {l : List Int} (h : Own w B v l) (hg : w.grownBy w' (some g)) (hB : g < B) : Own w' B v l := h.grown hg (fun k hk e => by cases e; have := (h.lt g hk).1; omega)
theorem Cu.own {g : Nat} {cv : Value} {l : List Int} {n : Nat} {w w' : World} {B : Nat} {v : Value} {s : List Int} (h : Cu g cv l n w) (hv : Own w B v s) (hB : g < B) (hg : w.grownBy w' v.ownBlock) : Cu g cv l n w' := h.grown hg (fun k hk => by have := (hv.lt k hk).1; omega)
set_option maxRecDepth 100000 in
set_option maxHeartbeats 4000000 in
theorem sequence_any (g : Nat) (cv : Value) (l : List Int) (n : Nat) (w : World) (M : Nat) (h : Cu g cv l n w) (hn : n ≤ 1152921504606830000) (hM : M ≤ 30) :
    Calls Try.prog 105 #[.pointer (some ⟨g, 0, none⟩), .int .i64 M] w (Dr g cv l (n + 100) w (SeqV w.heap.size 40)) := by
  have LT := h.lt
  have HM1 : (M : Int) ≤ 30 := by omega
  have H1 := Lib.hid (pick_any g cv l n w ((M : Int) + 1) h (by omega) (by omega) (by omega))
  clear h
  go_enter Try.func105, Try.ntmps105
  go_wp2_with fail
  refine H1.out.mono ?_
  rintro e w1 ⟨v1, rfl, ⟨x, rfl, hx0, hx1⟩, hc1, hg1⟩
  obtain ⟨K, rfl⟩ : ∃ K : Nat, x = K := ⟨x.toNat, (Int.toNat_of_nonneg hx0).symm⟩
  have H2 := Lib.hid (sure_any g cv l (n + 2) w1 K hc1 (by omega) (by omega))
  have S1 := Lib.hid hg1.size
  have G1 := Lib.hid hg1
  have HKM := Lib.hid (show K ≤ 30 by omega)
  clear hx0 hx1 hc1 hg1
  go_wp2_with fail
  refine H2.out.mono ?_
  rintro e w2 ⟨v2, rfl, ⟨s, ho2, hl2, hall2⟩, hc2, hg2⟩
  have G2 := Lib.hid (grown_tr G1.out hg2)
  have O2 := Lib.hid (ho2.mono S1.out)
  have HS2 := Lib.hid (sure_seq hall2 (by have := HKM.out; omega))
  have L2 := Lib.hid (show s.length ≤ 30 by have := HKM.out; omega)
  have H3 := Lib.hid (pick_any g cv l (n + 2 + 2 * K) w2 16 hc2 (by have := HKM.out; omega) (by omega) (by omega))
  obtain ⟨pa, ca, hsh⟩ := ho2.is.shape
  subst hsh
  clear ho2 hl2 hall2 hc2 hg2
  go_wp2_with fail
  refine H3.out.mono ?_
  rintro e w3 ⟨v3, rfl, ⟨y, rfl, hy0, hy1⟩, hc3, hg3⟩
  have G3 := Lib.hid (grown_tr G2.out hg3)
  have O3 := Lib.hid (O2.out.kept hg3 LT)
  have C3 := Lib.hid (hc3.more (m := n + 66) (by have := HKM.out; omega))
  have S3 := Lib.hid G3.out.size
  clear hc3 hg3
  by_cases h0 : y = 0
  · subst h0
    have I1 := IS.lit (l := [-1, 4, 4611686018427387904]) (heap_alloc_new w3 (.cells #[.int .i64 (-1), .int .i64 4, .int .i64 4611686018427387904] 3)) (by decide)
    have P1 := Lib.hid (among_any g cv l (n + 66) (w3.alloc (.cells #[.int .i64 (-1), .int .i64 4, .int .i64 4611686018427387904] 3)) _ [-1, 4, 4611686018427387904] (C3.out.below (belowa (Below.refl _ _) _)) (by omega) I1 (by simp) (by simp) (fun k hk e => by cases hk; have h2 := C3.out.lt; rw [← e] at h2; exact Nat.lt_irrefl _ h2))
    have G3a := Lib.hid (grown_alloc G3.out (.cells #[.int .i64 (-1), .int .i64 4, .int .i64 4611686018427387904] 3))
    have O3a := Lib.hid (O3.out.alloc' (.cells #[.int .i64 (-1), .int .i64 4, .int .i64 4611686018427387904] 3))
    have S3a := Lib.hid G3a.out.size
    have HSL := Lib.hid (show s.length ≤ 1048576 by have := L2.out; omega)
    clear I1
    go_wp2_with (first
      | (refine P1.out.mono ?_; rintro e w4 ⟨v4, rfl, ⟨z, hz, rfl⟩, hc4, hg4⟩; have C4 := Lib.hid hc4; have G4 := Lib.hid (grown_tr G3a.out hg4); have O4 := Lib.hid (O3a.out.kept hg4 LT); have S4 := Lib.hid G4.out.size; clear hc4 hg4 hz)
      | (at_builtin; refine wpList_pushK rfl _ _ rfl w.heap.size _ s rfl (O4.out.alloc' _) w4.heap.size 1 z rfl (cell_new_1 _ _ _) HSL.out 0 w4 ((belowa (Below.refl _ _) _).mono (Nat.zero_le _)) (Nat.zero_le _) (by have := S4.out; simp; omega) (Nat.zero_le _) ?_; intro v5 w5 ho5 hb5 hg5; have O5 := Lib.hid ho5; have G5 := Lib.hid (grown_own (grown_alloc G4.out _) hg5 (fun k hk => (O4.out.lt k hk).1)); have C5 := Lib.hid ((C4.out.below (belowa (Below.refl _ _) _)).own (O4.out.alloc' _) LT hg5); clear ho5 hb5 hg5))
    go_returns
    exact ⟨_, rfl, ⟨_, O5.out, by rw [List.length_append]; have := L2.out; simp; omega⟩, C5.out.more (by omega), G5.out⟩
  · have e0 : (y == 0) = false := by simpa using h0
    by_cases h1 : y = 1
    · subst h1
      have P1 := Lib.hid (pick_any g cv l (n + 66) w3 2 C3.out (by omega) (by omega) (by omega))
      obtain ⟨i0, hi, hz0, hz1, hz2⟩ := info_parts infoInt
      clear h0 e0
      go_wp2_with fail
      refine P1.out.mono ?_
      rintro e w4 ⟨v4, rfl, ⟨z, rfl, hz0', hz1'⟩, hc4, hg4⟩
      have C4 := Lib.hid hc4
      have G4 := Lib.hid (grown_tr G3.out hg4)
      have S4 := Lib.hid G4.out.size
      have hz : z = 0 ∨ z = 1 := by omega
      clear hc4 hg4 hz0' hz1'
      rcases hz with rfl | rfl
      · go_wp2_with (at_make; refine wpList_make_full _ rfl _ _ 24 rfl w4.heap.size 3 i0 (.int .i64 0) 1 Try.underlying24 hi hz0 hz1 _ _ _ _ 32 rfl rfl rfl rfl ?b2 ?b3 (Nat.le_refl _) ?_)
        case b2 => rw [hz2]; decide
        case b3 => decide
        intro w5 ho5 hg5
        rw [made_zeros] at ho5
        have O5 := Lib.hid ho5
        have C5 := Lib.hid (C4.out.grown hg5 (fun k e => by cases e))
        have G5 := Lib.hid (grown_own G4.out hg5 (fun k e => by cases e))
        clear ho5 hg5
        go_wp2_with fail
        go_returns
        exact ⟨_, rfl, ⟨List.replicate 32 0, rowMono (show w5.ownsRow w4.heap.size 3 1 _ (List.replicate 32 (0 : Int)).length _ from by rw [List.length_replicate]; exact O5.out) S4.out, by simp⟩, C5.out.more (by omega), G5.out⟩
      · go_wp2_with (at_make; refine wpList_make_full _ rfl _ _ 24 rfl w4.heap.size 3 i0 (.int .i64 0) 1 Try.underlying24 hi hz0 hz1 _ _ _ _ 33 rfl rfl rfl rfl ?b2 ?b3 (Nat.le_refl _) ?_)
        case b2 => rw [hz2]; decide
        case b3 => decide
        intro w5 ho5 hg5
        rw [made_zeros] at ho5
        have O5 := Lib.hid ho5
        have C5 := Lib.hid (C4.out.grown hg5 (fun k e => by cases e))
        have G5 := Lib.hid (grown_own G4.out hg5 (fun k e => by cases e))
        clear ho5 hg5
        go_wp2_with fail
        go_returns
        exact ⟨_, rfl, ⟨List.replicate 33 0, rowMono (show w5.ownsRow w4.heap.size 3 1 _ (List.replicate 33 (0 : Int)).length _ from by rw [List.length_replicate]; exact O5.out) S4.out, by simp⟩, C5.out.more (by omega), G5.out⟩
    · have e1 : (y == 1) = false := by simpa using h1
      by_cases h2 : y = 2
      · subst h2
        clear h0 h1 e0 e1
        have P1 := Lib.hid (phConjugate_any _ s w3 O3.out.is HS2.out)
        go_wp2_with fail
        refine P1.out.mono ?_
        rintro e w4 ⟨v4, rfl, ho4, hb4⟩
        have O4 := Lib.hid ho4
        have C4 := Lib.hid (C3.out.below hb4)
        have G4 := Lib.hid (grown_own G3.out (grown_of_below hb4 none) (fun k e => by cases e))
        clear ho4 hb4
        go_wp2_with fail
        go_returns
        exact ⟨_, rfl, ⟨_, O4.out.mono S3.out, by unfold barG; rw [gen_length]; have := L2.out; omega⟩, C4.out.more (by omega), G4.out⟩
      · have e2 : (y == 2) = false := by simpa using h2
        go_wp2_with fail
        go_returns
        exact ⟨_, rfl, ⟨_, O3.out, by have := L2.out; omega⟩, C3.out.more (by omega), G3.out⟩
end Go.Proofs.Ytfjhocmnafdnfaa
