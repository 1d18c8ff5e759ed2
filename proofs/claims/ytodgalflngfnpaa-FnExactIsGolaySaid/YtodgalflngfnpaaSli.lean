/- Slices of whole numbers: what reads as a list, what the call owns; the laws' helpers toIntS, eqIntS, markIntS, heldIntS. -/
import Derived.Test.YtodgalflngfnpaaRows
import Derived.Test.YtodgalflngfnpaaBase
namespace Go.Proofs.Ytodgalflngfnpaa
set_option maxRecDepth 100000
open Go.RowKit

/-- The value reads as the list l. -/
def IS (w : World) (v : Value) (l : List Int) : Prop :=
  (l = [] ∧ ∃ a cap, v = .slice a 0 cap) ∨
  (l ≠ [] ∧ ∃ b off cap, v = .slice (some ⟨b, off, none⟩) l.length cap ∧ l.length ≤ maxLen ∧ ∀ i, i < l.length → w.cell? ⟨b, off + i, none⟩ = some (.int .i64 (l.getD i 0)))
/-- The value is a row of the call's own that reads as l. -/
def Own (w : World) (B : Nat) (v : Value) (l : List Int) : Prop := w.ownsRow B 3 1 v l.length (l.map (Value.int .i64))
/-- From k on upward, n of them. -/
def marks (k : Int) (n : Nat) : List Int := (List.range n).map (fun (i : Nat) => k + (i : Int))
theorem marks_length (k : Int) (n : Nat) : (marks k n).length = n := by simp [marks]
theorem marks_succ (k : Int) (n : Nat) : marks k (n + 1) = marks k n ++ [k + n] := by simp [marks, List.range_succ]
theorem marks_getD (k : Int) (n i : Nat) (h : i < n) : (marks k n).getD i 0 = k + i := by simp [marks, List.getD, h]

theorem IS.below {w w' : World} {v : Value} {l : List Int} (h : IS w v l) (hb : Below w.heap.size w w') : IS w' v l := by
  rcases h with h | ⟨hn, b, off, cap, hv, hm, hc⟩
  · exact Or.inl h
  · exact Or.inr ⟨hn, b, off, cap, hv, hm, fun i hi => keepc hb (hc i hi)⟩
theorem IS.nil (w : World) : IS w (.slice none 0 0) [] := Or.inl ⟨rfl, none, 0, rfl⟩
theorem Own.is {w : World} {B : Nat} {v : Value} {l : List Int} (h : Own w B v l) : IS w v l := by
  rcases h.2 with ⟨rfl, h0⟩ | ⟨g, cap, cur, rfl, hg, hh, hn, hcap, hsz, htake⟩
  · rw [List.length_eq_zero_iff.1 h0]; exact IS.nil w
  · by_cases hl : l = []
    · subst hl; exact Or.inl ⟨rfl, _, _, rfl⟩
    · refine Or.inr ⟨hl, g, 0, cap, rfl, by omega, fun i hi => ?_⟩
      have h' : w.ownsRow B 3 1 (.slice (some ⟨g, 0, none⟩) l.length cap) l.length (l.map (Value.int .i64)) := h
      rw [Nat.zero_add, h'.cellAt i (by omega)]
      simp [List.getD, List.getElem?_eq_getElem hi]
theorem Own.lt {w : World} {B : Nat} {v : Value} {l : List Int} (h : Own w B v l) : ∀ k, v.ownBlock = some k → B ≤ k ∧ k < w.heap.size := World.ownsRow.lt h
theorem Own.below {w w' : World} {B : Nat} {v : Value} {l : List Int} (h : Own w B v l) (hb : Below w.heap.size w w') : Own w' B v l := by
  refine ⟨h.1, ?_⟩
  rcases h.2 with hn | ⟨g, cap, cur, hv, hg, hh, rest⟩
  · exact .inl hn
  · exact .inr ⟨g, cap, cur, hv, hg, (hb.block g (Array.getElem?_eq_some_iff.1 hh).1).trans hh, rest⟩
theorem Own.grown {w w' : World} {B : Nat} {v : Value} {l : List Int} {row : Option Nat} (h : Own w B v l) (hg : w.grownBy w' row) (hne : ∀ k, v.ownBlock = some k → row ≠ some k) : Own w' B v l :=
  World.ownsRow.kept h hg (by cases hv : v.ownBlock with | none => exact Or.inl rfl | some k => exact Or.inr (fun e => hne k hv e.symm))
theorem Own.mono {w : World} {B B' : Nat} {v : Value} {l : List Int} (h : Own w B v l) (hB : B' ≤ B) : Own w B' v l := by
  refine ⟨h.1, ?_⟩
  rcases h.2 with hn | ⟨g, cap, cur, hv, hg, rest⟩
  · exact .inl hn
  · exact .inr ⟨g, cap, cur, hv, Nat.le_trans hB hg, rest⟩
theorem Own.len {w : World} {B : Nat} {v : Value} {l : List Int} (h : Own w B v l) : l.length ≤ maxLen := by
  rcases h.2 with ⟨_, h0⟩ | ⟨g, cap, cur, hv, hg, hh, hn, hcap, _⟩
  · rw [h0]; exact Nat.zero_le _
  · omega
/-- The parts of an own row that is not nil. -/
theorem Own.cases {w : World} {B : Nat} {v : Value} {l : List Int} (h : Own w B v l) : (l = [] ∧ v = .slice none 0 0) ∨ ∃ g cap, v = .slice (some ⟨g, 0, none⟩) l.length cap ∧ B ≤ g ∧ g < w.heap.size := by
  rcases h.2 with ⟨rfl, h0⟩ | ⟨g, cap, cur, rfl, hg, hh, rest⟩
  · exact Or.inl ⟨List.length_eq_zero_iff.1 h0, rfl⟩
  · exact Or.inr ⟨g, cap, rfl, hg, (Array.getElem?_eq_some_iff.1 hh).1⟩

theorem maxLen_val : maxLen ≤ 9223372036854775807 := by unfold maxLen; omega

/-! ### eqIntS at one list -/
set_option maxHeartbeats 400000 in
theorem eqIntS_same (va vb : Value) (l : List Int) (w : World) (ha : IS w va l) (hb : IS w vb l) : Calls Try.prog 19 #[va, vb] w (Ret w (.bool true)) := by
  rcases ha with ⟨rfl, a, cap, rfl⟩ | ⟨hn, b, off, cap, rfl, hm, hc⟩
  · rcases hb with ⟨_, a', cap', rfl⟩ | ⟨hn, _⟩
    · go_enter Try.func19, Try.ntmps19
      go_wp2
      go_loop [5] (fun i => i = .int .i64 0) (fun _ => 0)
      case atStart => rfl
      case round =>
        subst hrel
        go_wp2
        go_returns
        exact ⟨rfl, by go_grown⟩
    · exact absurd rfl hn
  · rcases hb with ⟨rfl, _⟩ | ⟨_, b', off', cap', rfl, _, hc'⟩
    · exact absurd rfl hn
    · have hm2 := maxLen_val
      have hm3 : l.length ≤ 9223372036854775807 := by omega
      clear hm hm2 hn
      have HC := Lib.hid hc
      have HC' := Lib.hid hc'
      clear hc hc'


      go_enter Try.func19, Try.ntmps19
      go_wp2
      go_loopw [5] (fun i wr => ∃ k : Nat, k ≤ l.length ∧ i = .int .i64 k ∧ Below w.heap.size w wr) (fun i _ => l.length - (intOf i).toNat)
      case atStart => exact ⟨0, Nat.zero_le _, rfl, Below.refl _ _⟩
      case round =>
        obtain ⟨k, hk, rfl, hbel⟩ := hrel
        by_cases hlt : k < l.length
        · have c1 := (keepc hbel (HC.out k hlt))
          have c2 := (keepc hbel (HC'.out k hlt))
          have h0 : (0 : Int) ≤ (k : Int) := by omega
          have h1 : (k : Int) < (l.length : Int) := by omega
          go_wp2
          go_quiet (fail)
          go_wp2
          go_roundw
          case rel => exact ⟨k + 1, by omega, by go_num, belowN hbel _⟩
          case measure => simp [intOf]; omega
        · go_wp2
          go_returns
          exact ⟨rfl, by go_grown⟩

/-! ### heldIntS at a marked slice -/
set_option maxHeartbeats 400000 in
theorem heldIntS_marks (v : Value) (k : Int) (n : Nat) (w : World) (hv : IS w v (marks k n)) (hk0 : 0 ≤ k) (hk : k + n ≤ 4611686018427387904) : Calls Try.prog 30 #[v, .int .i64 k] w (Ret w (.int .i64 (k + n))) := by
  rcases hv with ⟨h0, a, cap, rfl⟩ | ⟨hn, b, off, cap, rfl, hm, hc⟩
  · have hn : n = 0 := by have := congrArg List.length h0; simpa [marks] using this
    subst hn
    go_enter Try.func30, Try.ntmps30
    go_wp2
    go_loop [5, 1] (fun i q => i = .int .i64 0 ∧ q = .int .i64 k) (fun _ _ => 0)
    case atStart => exact ⟨rfl, rfl⟩
    case round =>
      obtain ⟨rfl, rfl⟩ := hrel
      go_wp2
      go_returns
      exact ⟨ret_int (by omega), by go_grown⟩
  · rw [marks_length] at hc hm ⊢
    have HC := Lib.hid hc
    clear hc hm hn
    go_enter Try.func30, Try.ntmps30
    go_wp2
    go_loop [5, 1] (fun i q => ∃ j : Nat, j ≤ n ∧ i = .int .i64 j ∧ q = .int .i64 (k + j)) (fun i _ => n - (intOf i).toNat)
    case atStart => exact ⟨0, Nat.zero_le _, rfl, by go_num⟩
    case round =>
      obtain ⟨j, hj, rfl, rfl⟩ := hrel
      by_cases hlt : j < n
      · have c1 := HC.out j hlt
        rw [marks_getD k n j hlt] at c1
        have h0 : (0 : Int) ≤ (j : Int) := by omega
        have h1 : (j : Int) < (n : Int) := by omega
        go_wp2
        go_round
        case rel => exact ⟨j + 1, by omega, by go_num, by go_num⟩
        case measure => simp [intOf]; omega
      · go_wp2
        go_returns
        exact ⟨ret_int (by omega), by go_grown⟩

/-! ### markIntS over a row of the call's own -/
theorem set_marks (k : Int) (l : List Int) (j : Nat) (hj : j < l.length) : ((marks k j ++ l.drop j).map (Value.int .i64)).set j (.int .i64 (k + j)) = (marks k (j + 1) ++ l.drop (j + 1)).map (Value.int .i64) := by
  rw [← List.map_set]
  congr 1
  rw [List.set_append_right _ _ (by rw [marks_length]; exact Nat.le_refl _), marks_length, Nat.sub_self, marks_succ]
  rw [List.drop_eq_getElem_cons hj, List.set_cons_zero, List.append_assoc]
  rfl
theorem len_marks (k : Int) (l : List Int) (j : Nat) (hj : j ≤ l.length) : (marks k j ++ l.drop j).length = l.length := by simp [marks_length]; omega
theorem grown_trans {w w1 w2 : World} {row : Option Nat} (h : w.grownBy w1 row) (h' : w1.grownBy w2 row) : w.grownBy w2 row :=
  ⟨h'.os.trans h.os, h'.tape.trans h.tape, h'.output.trans h.output, Nat.le_trans h.size h'.size, fun k hk hne => (h'.block k (Nat.lt_of_lt_of_le hk h.size) hne).trans (h.block k hk hne)⟩
/-- What marking leaves. -/
def Marked (w : World) (B : Nat) (v : Value) (k : Int) (n : Nat) (e : Ending) (w' : World) : Prop := e = .returned (.int .i64 (k + n)) ∧ Own w' B v (marks k n) ∧ w.grownBy w' v.ownBlock
set_option maxHeartbeats 400000 in
theorem markIntS_own (B : Nat) (v : Value) (l : List Int) (k : Int) (w : World) (hv : Own w B v l) (hk0 : 0 ≤ k) (hk : k + l.length ≤ 4611686018427387904) : Calls Try.prog 23 #[v, .int .i64 k] w (Marked w B v k l.length) := by
  rcases hv.cases with ⟨rfl, rfl⟩ | ⟨g, cap, rfl, hg, hgw⟩
  · go_enter Try.func23, Try.ntmps23
    go_wp2
    go_loop [5, 1] (fun i q => i = .int .i64 0 ∧ q = .int .i64 k) (fun _ _ => 0)
    case atStart => exact ⟨rfl, rfl⟩
    case round =>
      obtain ⟨rfl, rfl⟩ := hrel
      go_wp2
      go_returns
      exact ⟨ret_int (by simp), hv, World.grownBy.refl _ _⟩
  · have hm := hv.len
    have hm2 := maxLen_val
    have hm3 : l.length ≤ 9223372036854775807 := by omega
    clear hm hm2
    have HV := Lib.hid hv
    clear hv
    go_enter Try.func23, Try.ntmps23
    go_wp2
    go_loopw [5, 1] (fun i q wr => ∃ j : Nat, j ≤ l.length ∧ i = .int .i64 j ∧ q = .int .i64 (k + j) ∧ wr.ownsRow B 3 1 (.slice (some ⟨g, 0, none⟩) l.length cap) l.length ((marks k j ++ l.drop j).map (Value.int .i64)) ∧ w.grownBy wr (some g)) (fun i _ _ => l.length - (intOf i).toNat)
    case atStart => exact ⟨0, Nat.zero_le _, rfl, by go_num, by have h := HV.out; unfold Own at h; simpa [marks] using h, World.grownBy.refl _ _⟩
    case round =>
      obtain ⟨j, hj, rfl, rfl, hown, hgr⟩ := hrel
      by_cases hlt : j < l.length
      · have c1 : wr.cell? ⟨g, j, none⟩ = some (.int .i64 (l.getD j 0)) := by
          rw [hown.cellAt j (by omega)]
          simp [marks_length, List.getElem?_append, List.getD, List.getElem?_eq_getElem hlt]
        have c2 := hown.frozenAt j
        have HO := Lib.hid hown
        have HG := Lib.hid hgr
        clear hown hgr
        have h0 : (0 : Int) ≤ (j : Int) := by omega
        have h1 : (j : Int) < (l.length : Int) := by omega
        go_wp2
        go_roundw
        case rel =>
          have hs := HO.out.stored j (.int .i64 (k + j))
          rw [set_marks k l j hlt] at hs
          exact ⟨j + 1, by omega, by go_num, by go_num, hs.1, grown_trans HG.out hs.2⟩
        case measure => simp [intOf]; omega
      · have he : j = l.length := by omega
        subst he
        have HO := Lib.hid hown
        have HG := Lib.hid hgr
        clear hown hgr
        go_wp2
        go_returns
        refine ⟨rfl, ?_, HG.out⟩
        have := HO.out
        rw [List.drop_length, List.append_nil] at this
        unfold Own
        rw [marks_length]
        exact this

/-! ### toIntS: a copy of the call's own -/
theorem infoInt : (Try.prog.info? 3).map (fun i => (i.zero, i.size, i.bytes)) = some (some (.int .i64 0), 1, 8) := by kernel_rfl
/-- A call that makes a list of its own. -/
def Makes (w : World) (l : List Int) (e : Ending) (w' : World) : Prop := ∃ v, e = .returned v ∧ Own w' w.heap.size v l ∧ Below w.heap.size w w'
theorem made_zeros (n : Nat) : (madeCells #[Value.int .i64 0] n).toList = (List.replicate n (0 : Int)).map (Value.int .i64) := by
  apply List.ext_getElem
  · simp [madeCells]
  · intro i h1 h2
    simp [madeCells, Nat.mod_one]
theorem copy_at (l : List Int) (j : Nat) (hj : j < l.length) : ((l.take j ++ List.replicate (l.length - j) (0 : Int)).map (Value.int .i64))[j]? = some (.int .i64 0) := by
  have ht : (l.take j).length = j := by simp; omega
  rw [List.getElem?_map, List.getElem?_append_right (by omega), ht, Nat.sub_self, List.getElem?_replicate, if_pos (by omega)]
  rfl
theorem set_copy (l : List Int) (m : Nat) (hm : m = l.length) (j : Nat) (hj : j < l.length) : ((l.take j ++ List.replicate (m - j) (0 : Int)).map (Value.int .i64)).set j (.int .i64 (l.getD j 0)) = (l.take (j + 1) ++ List.replicate (m - (j + 1)) (0 : Int)).map (Value.int .i64) := by
  subst hm
  have ht : (l.take j).length = j := by simp; omega
  rw [← List.map_set]
  congr 1
  rw [List.set_append_right _ _ (by rw [ht]; exact Nat.le_refl _), ht, Nat.sub_self, List.take_succ_eq_append_getElem hj]
  rw [show l.length - j = (l.length - (j + 1)) + 1 by omega, List.replicate_succ, List.set_cons_zero, List.append_assoc]
  simp [List.getD, List.getElem?_eq_getElem hj]
set_option maxHeartbeats 400000 in
theorem toIntS_any (v : Value) (l : List Int) (w : World) (hv : IS w v l) (hl : l.length ≤ 1048576) : Calls Try.prog 17 #[v] w (Makes w l) := by
  obtain ⟨i0, hi, hz0, hz1, hz2⟩ := info_parts infoInt
  rcases hv with ⟨rfl, a, cap, rfl⟩ | ⟨hn, b, off, cap, rfl, hm, hc⟩
  · go_enter Try.func17, Try.ntmps17
    go_wp2_with (at_make; refine wpList_make_full _ rfl _ _ 22 rfl w.heap.size 3 i0 (.int .i64 0) 1 Try.underlying22 hi hz0 hz1 _ _ _ _ 0 rfl rfl rfl rfl ?b2 ?b3 (Nat.le_refl _) ?_)
    case b2 => omega
    case b3 => unfold maxLen; omega
    intro w0 hown0 hgrow0
    go_wp2
    go_loop [4] (fun i => i = .int .i64 0) (fun _ => 0)
    case atStart => rfl
    case round =>
      subst hrel
      go_wp2
      go_returns
      exact ⟨_, rfl, by simpa [madeCells, Own] using hown0, (Below.refl _ _).grown hgrow0 (Nat.le_refl _) (fun k h => by cases h)⟩
  · have HC := Lib.hid hc
    clear hc hm hn
    go_enter Try.func17, Try.ntmps17
    go_wp2_with (at_make; refine wpList_make_full _ rfl _ _ 22 rfl w.heap.size 3 i0 (.int .i64 0) 1 Try.underlying22 hi hz0 hz1 _ _ _ _ l.length rfl rfl rfl rfl ?b2 ?b3 (Nat.le_refl _) ?_)
    case b2 => rw [hz2]; omega
    case b3 => unfold maxLen; omega
    intro w0 hown0 hgrow0
    rw [made_zeros] at hown0
    have HO0 := Lib.hid hown0
    have HG0 := Lib.hid hgrow0
    clear hown0 hgrow0
    go_wp2
    go_loopw [4] (fun i wr => ∃ j : Nat, j ≤ l.length ∧ i = .int .i64 j ∧ wr.ownsRow w.heap.size 3 1 (.slice (some ⟨w.heap.size, 0, none⟩) l.length l.length) l.length ((l.take j ++ List.replicate (l.length - j) (0 : Int)).map (Value.int .i64)) ∧ Below w.heap.size w wr) (fun i _ => l.length - (intOf i).toNat)
    case atStart => exact ⟨0, Nat.zero_le _, rfl, by simpa using HO0.out, (Below.refl _ _).grown HG0.out (Nat.le_refl _) (fun k h => by cases h)⟩
    case round =>
      obtain ⟨j, hj, rfl, hown, hbel⟩ := hrel
      by_cases hlt : j < l.length
      · have c1 : wr.cell? ⟨w.heap.size, j, none⟩ = some (.int .i64 0) := by
          rw [hown.cellAt j (by omega)]
          exact copy_at l j hlt
        have c2 := hown.frozenAt j
        obtain ⟨x, hx⟩ : ∃ x, x = l.getD j 0 := ⟨_, rfl⟩
        have c3 := keepc hbel (HC.out j hlt)
        rw [← hx] at c3
        have HX := Lib.hid hx
        clear hx
        have HO := Lib.hid hown
        have HB := Lib.hid hbel
        clear hown hbel
        have h0 : (0 : Int) ≤ (j : Int) := by omega
        have h1 : (j : Int) < (l.length : Int) := by omega
        go_wp2
        go_roundw
        case rel =>
          have hs := HO.out.stored j (.int .i64 x)
          rw [HX.out, set_copy l l.length rfl j hlt] at hs
          rw [← HX.out] at hs
          exact ⟨j + 1, by omega, by go_num, hs.1, HB.out.setCell (Nat.le_refl _) _⟩
        case measure => simp [intOf]; omega
      · have he : j = l.length := by omega
        subst he
        have HO := Lib.hid hown
        have HB := Lib.hid hbel
        clear hown hbel
        go_wp2
        go_returns
        refine ⟨_, rfl, ?_, HB.out⟩
        have := HO.out
        rw [List.take_length, Nat.sub_self] at this
        simpa [Own] using this
end Go.Proofs.Ytodgalflngfnpaa
