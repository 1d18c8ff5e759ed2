/- Plain words of these proofs: worlds that keep what was there, and slices of whole numbers. Slices of whole numbers: what reads as a list, what the call owns; the laws' helpers toIntS, eqIntS, markIntS, heldIntS. What the walks of the laws share. Rows of the call's own behind a new block; the cells of a new block of two. Rows of the call's own, kept by a call that keeps what was there. Which lists are sequences: the model's phIs, the program's IsSequence. The model's phBoth. -/
import Derived.Handy
import Derived.WalkSpells
import Derived.WalkLawsBesides
import Derived.SizedLaws
import Derived.Lib.SmallJoins
import Derived.Deep.RegionHeld3
import Derived.Deep.QuietTactic
import Derived.BigQuiet
import Derived.Lib.Hide
import Derived.Test.YtfjhocmnafdnfaaRows
namespace Go.Proofs.Ytfjhocmnafdnfaa
set_option maxRecDepth 100000
section
open Go.RowKit

/-- The call returns v, and all that was there before is as it was. -/
def Ret (w : World) (v : Value) (e : Ending) (w' : World) : Prop := e = .returned v ∧ Below w.heap.size w w'

theorem ret_bool {a b : Bool} (h : a = b) : Ending.returned (.bool a) = Ending.returned (.bool b) := by rw [h]
theorem ret_int {k : IntKind} {a b : Int} (h : a = b) : Ending.returned (.int k a) = .returned (.int k b) := by rw [h]
theorem ret_eq {a b : Value} (h : a = b) : Ending.returned a = Ending.returned b := by rw [h]

theorem via {B : Nat} {w Wi w' : World} (hb : Below Wi.heap.size Wi w') (hB : B ≤ Wi.heap.size) (h : Below B w Wi) : Below B w w' := h.trans (hb.mono hB)

/-- What a call that keeps what was there leaves to read: cells, marks, the size. -/
theorem after {W w1 : World} (hb : Below W.heap.size W w1) : (∀ b o, b < W.heap.size → w1.cell? ⟨b, o, none⟩ = W.cell? ⟨b, o, none⟩) ∧ (∀ b o, b < W.heap.size → w1.frozen? ⟨b, o, none⟩ = W.frozen? ⟨b, o, none⟩) ∧ W.heap.size ≤ w1.heap.size :=
  ⟨fun b o h => hb.cell (p := ⟨b, o, none⟩) h, fun b o h => hb.frozen (p := ⟨b, o, none⟩) h, hb.size⟩

/-- A cell that was there is there behind such a call. -/
theorem keepc {w w1 : World} (hb : Below w.heap.size w w1) {a : Addr} {v : Value} (h : w.cell? a = some v) : w1.cell? a = some v :=
  (hb.cell (World.block_lt_of_cell? w a h)).trans h
theorem keepa {w : World} (o : Obj) {a : Addr} {v : Value} (h : w.cell? a = some v) : (w.alloc o).cell? a = some v :=
  (World.cell?_alloc_old w o a (Nat.ne_of_lt (World.block_lt_of_cell? w a h))).trans h
theorem keepd {w : World} {a : Addr} {v : Value} (h : w.cell? a = some v) : w.drew.cell? a = some v := h
theorem belowa {W w : World} (h : Below W.heap.size W w) (o : Obj) : Below W.heap.size W (w.alloc o) := h.alloc h.size o
theorem keeps {w : World} {a b : Addr} {u v : Value} (h : w.cell? a = some v) (hne : b.block ≠ a.block) : (w.setCell b u).cell? a = some v :=
  (World.cell?_setCell_other _ _ _ _ (fun e => hne (by rw [e]))).trans h
theorem belows {W w : World} (h : Below W.heap.size W w) {b : Addr} (hb : W.heap.size ≤ b.block) (u : Value) : Below W.heap.size W (w.setCell b u) := h.setCell hb u
theorem belowN {B : Nat} {W w : World} (h : Below B W w) (n : Nat) : Below B W (w.drewN n) := ⟨h.os, h.tape, h.output, h.size, h.block⟩
theorem Ret.of {w : World} {v : Value} {w' : World} (h : Below w.heap.size w w') : Ret w v (.returned v) w' := ⟨rfl, h⟩
theorem joins {W w w1 : World} (h : Below W.heap.size W w) (hb : Below w.heap.size w w1) : Below W.heap.size W w1 := h.trans (hb.mono h.size)
end
section
open Go.RowKit

/-- The value reads as the list l. -/
def IS (w : World) (v : Value) (l : List Int) : Prop :=
  (l = [] ∧ ∃ a cap, v = .slice a 0 cap) ∨
  (l ≠ [] ∧ ∃ b off cap, v = .slice (some ⟨b, off, none⟩) l.length cap ∧ l.length ≤ maxLen ∧ ∀ i, i < l.length → w.cell? ⟨b, off + i, none⟩ = some (.int .i64 (l.getD i 0)))
/-- The value is a row of the call's own that reads as l. -/
def Own (w : World) (B : Nat) (v : Value) (l : List Int) : Prop := w.ownsRow B 3 1 v l.length (l.map (Value.int .i64))
/-- From k on upward, n of them. -/
def marks (k : Int) (n : Nat) : List Int := (List.range n).map (fun (i : Nat) => k + (i : Int))
theorem marks_length (k : Int) (n : Nat) : (marks k n).length = n := by simp [marks]
theorem marks_succ (k : Int) (n : Nat) : marks k (n + 1) = marks k n ++ [k + n] := by simp [marks, List.range_succ]
theorem marks_getD (k : Int) (n i : Nat) (h : i < n) : (marks k n).getD i 0 = k + i := by simp [marks, List.getD, h]

theorem IS.below {w w' : World} {v : Value} {l : List Int} (h : IS w v l) (hb : Below w.heap.size w w') : IS w' v l := by
  rcases h with h | ⟨hn, b, off, cap, hv, hm, hc⟩
  · exact Or.inl h
  · exact Or.inr ⟨hn, b, off, cap, hv, hm, fun i hi => keepc hb (hc i hi)⟩
theorem IS.shape {w : World} {v : Value} {l : List Int} (hv : IS w v l) : ∃ a cap, v = .slice a l.length cap := by
  rcases hv with ⟨rfl, a, cap, rfl⟩ | ⟨_, b, off, cap, rfl, _⟩ <;> exact ⟨_, _, rfl⟩
theorem IS.nil (w : World) : IS w (.slice none 0 0) [] := Or.inl ⟨rfl, none, 0, rfl⟩
theorem Own.is {w : World} {B : Nat} {v : Value} {l : List Int} (h : Own w B v l) : IS w v l := by
  rcases h.2 with ⟨rfl, h0⟩ | ⟨g, cap, cur, rfl, hg, hh, hn, hcap, hsz, htake⟩
  · rw [List.length_eq_zero_iff.1 h0]; exact IS.nil w
  · by_cases hl : l = []
    · subst hl; exact Or.inl ⟨rfl, _, _, rfl⟩
    · refine Or.inr ⟨hl, g, 0, cap, rfl, by omega, fun i hi => ?_⟩
      have h' : w.ownsRow B 3 1 (.slice (some ⟨g, 0, none⟩) l.length cap) l.length (l.map (Value.int .i64)) := h
      rw [Nat.zero_add, h'.cellAt i (by omega)]
      simp [List.getD, List.getElem?_eq_getElem hi]
theorem Own.lt {w : World} {B : Nat} {v : Value} {l : List Int} (h : Own w B v l) : ∀ k, v.ownBlock = some k → B ≤ k ∧ k < w.heap.size := World.ownsRow.lt h
theorem Own.below {w w' : World} {B : Nat} {v : Value} {l : List Int} (h : Own w B v l) (hb : Below w.heap.size w w') : Own w' B v l := by
  refine ⟨h.1, ?_⟩
  rcases h.2 with hn | ⟨g, cap, cur, hv, hg, hh, rest⟩
  · exact .inl hn
  · exact .inr ⟨g, cap, cur, hv, hg, (hb.block g (Array.getElem?_eq_some_iff.1 hh).1).trans hh, rest⟩
theorem Own.grown {w w' : World} {B : Nat} {v : Value} {l : List Int} {row : Option Nat} (h : Own w B v l) (hg : w.grownBy w' row) (hne : ∀ k, v.ownBlock = some k → row ≠ some k) : Own w' B v l :=
  World.ownsRow.kept h hg (by cases hv : v.ownBlock with | none => exact Or.inl rfl | some k => exact Or.inr (fun e => hne k hv e.symm))
theorem Own.mono {w : World} {B B' : Nat} {v : Value} {l : List Int} (h : Own w B v l) (hB : B' ≤ B) : Own w B' v l := by
  refine ⟨h.1, ?_⟩
  rcases h.2 with hn | ⟨g, cap, cur, hv, hg, rest⟩
  · exact .inl hn
  · exact .inr ⟨g, cap, cur, hv, Nat.le_trans hB hg, rest⟩
theorem Own.len {w : World} {B : Nat} {v : Value} {l : List Int} (h : Own w B v l) : l.length ≤ maxLen := by
  rcases h.2 with ⟨_, h0⟩ | ⟨g, cap, cur, hv, hg, hh, hn, hcap, _⟩
  · rw [h0]; exact Nat.zero_le _
  · omega
/-- The parts of an own row that is not nil. -/
theorem Own.cases {w : World} {B : Nat} {v : Value} {l : List Int} (h : Own w B v l) : (l = [] ∧ v = .slice none 0 0) ∨ ∃ g cap, v = .slice (some ⟨g, 0, none⟩) l.length cap ∧ B ≤ g ∧ g < w.heap.size := by
  rcases h.2 with ⟨rfl, h0⟩ | ⟨g, cap, cur, rfl, hg, hh, rest⟩
  · exact Or.inl ⟨List.length_eq_zero_iff.1 h0, rfl⟩
  · exact Or.inr ⟨g, cap, rfl, hg, (Array.getElem?_eq_some_iff.1 hh).1⟩

theorem maxLen_val : maxLen ≤ 9223372036854775807 := by unfold maxLen; omega

/-! ### eqIntS at one list -/
set_option maxHeartbeats 400000 in
theorem eqIntS_same (va vb : Value) (l : List Int) (w : World) (ha : IS w va l) (hb : IS w vb l) : Calls Try.prog 13 #[va, vb] w (Ret w (.bool true)) := by
  rcases ha with ⟨rfl, a, cap, rfl⟩ | ⟨hn, b, off, cap, rfl, hm, hc⟩
  · rcases hb with ⟨_, a', cap', rfl⟩ | ⟨hn, _⟩
    · go_enter Try.func13, Try.ntmps13
      go_wp2
      go_loop [5] (fun i => i = .int .i64 0) (fun _ => 0)
      case atStart => rfl
      case round =>
        subst hrel
        go_wp2
        go_returns
        exact ⟨rfl, by go_grown⟩
    · exact absurd rfl hn
  · rcases hb with ⟨rfl, _⟩ | ⟨_, b', off', cap', rfl, _, hc'⟩
    · exact absurd rfl hn
    · have hm2 := maxLen_val
      have hm3 : l.length ≤ 9223372036854775807 := by omega
      clear hm hm2 hn
      have HC := Lib.hid hc
      have HC' := Lib.hid hc'
      clear hc hc'


      go_enter Try.func13, Try.ntmps13
      go_wp2
      go_loopw [5] (fun i wr => ∃ k : Nat, k ≤ l.length ∧ i = .int .i64 k ∧ Below w.heap.size w wr) (fun i _ => l.length - (intOf i).toNat)
      case atStart => exact ⟨0, Nat.zero_le _, rfl, Below.refl _ _⟩
      case round =>
        obtain ⟨k, hk, rfl, hbel⟩ := hrel
        by_cases hlt : k < l.length
        · have c1 := (keepc hbel (HC.out k hlt))
          have c2 := (keepc hbel (HC'.out k hlt))
          have h0 : (0 : Int) ≤ (k : Int) := by omega
          have h1 : (k : Int) < (l.length : Int) := by omega
          go_wp2
          go_quiet (fail)
          go_wp2
          go_roundw
          case rel => exact ⟨k + 1, by omega, by go_num, belowN hbel _⟩
          case measure => simp [intOf]; omega
        · go_wp2
          go_returns
          exact ⟨rfl, by go_grown⟩

/-! ### heldIntS at a marked slice -/
set_option maxHeartbeats 400000 in
theorem heldIntS_marks (v : Value) (k : Int) (n : Nat) (w : World) (hv : IS w v (marks k n)) (hk0 : 0 ≤ k) (hk : k + n ≤ 4611686018427387904) : Calls Try.prog 17 #[v, .int .i64 k] w (Ret w (.int .i64 (k + n))) := by
  rcases hv with ⟨h0, a, cap, rfl⟩ | ⟨hn, b, off, cap, rfl, hm, hc⟩
  · have hn : n = 0 := by have := congrArg List.length h0; simpa [marks] using this
    subst hn
    go_enter Try.func17, Try.ntmps17
    go_wp2
    go_loop [5, 1] (fun i q => i = .int .i64 0 ∧ q = .int .i64 k) (fun _ _ => 0)
    case atStart => exact ⟨rfl, rfl⟩
    case round =>
      obtain ⟨rfl, rfl⟩ := hrel
      go_wp2
      go_returns
      exact ⟨ret_int (by omega), by go_grown⟩
  · rw [marks_length] at hc hm ⊢
    have HC := Lib.hid hc
    clear hc hm hn
    go_enter Try.func17, Try.ntmps17
    go_wp2
    go_loop [5, 1] (fun i q => ∃ j : Nat, j ≤ n ∧ i = .int .i64 j ∧ q = .int .i64 (k + j)) (fun i _ => n - (intOf i).toNat)
    case atStart => exact ⟨0, Nat.zero_le _, rfl, by go_num⟩
    case round =>
      obtain ⟨j, hj, rfl, rfl⟩ := hrel
      by_cases hlt : j < n
      · have c1 := HC.out j hlt
        rw [marks_getD k n j hlt] at c1
        have h0 : (0 : Int) ≤ (j : Int) := by omega
        have h1 : (j : Int) < (n : Int) := by omega
        go_wp2
        go_round
        case rel => exact ⟨j + 1, by omega, by go_num, by go_num⟩
        case measure => simp [intOf]; omega
      · go_wp2
        go_returns
        exact ⟨ret_int (by omega), by go_grown⟩

/-! ### markIntS over a row of the call's own -/
theorem set_marks (k : Int) (l : List Int) (j : Nat) (hj : j < l.length) : ((marks k j ++ l.drop j).map (Value.int .i64)).set j (.int .i64 (k + j)) = (marks k (j + 1) ++ l.drop (j + 1)).map (Value.int .i64) := by
  rw [← List.map_set]
  congr 1
  rw [List.set_append_right _ _ (by rw [marks_length]; exact Nat.le_refl _), marks_length, Nat.sub_self, marks_succ]
  rw [List.drop_eq_getElem_cons hj, List.set_cons_zero, List.append_assoc]
  rfl
theorem len_marks (k : Int) (l : List Int) (j : Nat) (hj : j ≤ l.length) : (marks k j ++ l.drop j).length = l.length := by simp [marks_length]; omega
theorem grown_trans {w w1 w2 : World} {row : Option Nat} (h : w.grownBy w1 row) (h' : w1.grownBy w2 row) : w.grownBy w2 row :=
  ⟨h'.os.trans h.os, h'.tape.trans h.tape, h'.output.trans h.output, Nat.le_trans h.size h'.size, fun k hk hne => (h'.block k (Nat.lt_of_lt_of_le hk h.size) hne).trans (h.block k hk hne)⟩
/-- What marking leaves. -/
def Marked (w : World) (B : Nat) (v : Value) (k : Int) (n : Nat) (e : Ending) (w' : World) : Prop := e = .returned (.int .i64 (k + n)) ∧ Own w' B v (marks k n) ∧ w.grownBy w' v.ownBlock
set_option maxHeartbeats 400000 in
theorem markIntS_own (B : Nat) (v : Value) (l : List Int) (k : Int) (w : World) (hv : Own w B v l) (hk0 : 0 ≤ k) (hk : k + l.length ≤ 4611686018427387904) : Calls Try.prog 16 #[v, .int .i64 k] w (Marked w B v k l.length) := by
  rcases hv.cases with ⟨rfl, rfl⟩ | ⟨g, cap, rfl, hg, hgw⟩
  · go_enter Try.func16, Try.ntmps16
    go_wp2
    go_loop [5, 1] (fun i q => i = .int .i64 0 ∧ q = .int .i64 k) (fun _ _ => 0)
    case atStart => exact ⟨rfl, rfl⟩
    case round =>
      obtain ⟨rfl, rfl⟩ := hrel
      go_wp2
      go_returns
      exact ⟨ret_int (by simp), hv, World.grownBy.refl _ _⟩
  · have hm := hv.len
    have hm2 := maxLen_val
    have hm3 : l.length ≤ 9223372036854775807 := by omega
    clear hm hm2
    have HV := Lib.hid hv
    clear hv
    go_enter Try.func16, Try.ntmps16
    go_wp2
    go_loopw [5, 1] (fun i q wr => ∃ j : Nat, j ≤ l.length ∧ i = .int .i64 j ∧ q = .int .i64 (k + j) ∧ wr.ownsRow B 3 1 (.slice (some ⟨g, 0, none⟩) l.length cap) l.length ((marks k j ++ l.drop j).map (Value.int .i64)) ∧ w.grownBy wr (some g)) (fun i _ _ => l.length - (intOf i).toNat)
    case atStart => exact ⟨0, Nat.zero_le _, rfl, by go_num, by have h := HV.out; unfold Own at h; simpa [marks] using h, World.grownBy.refl _ _⟩
    case round =>
      obtain ⟨j, hj, rfl, rfl, hown, hgr⟩ := hrel
      by_cases hlt : j < l.length
      · have c1 : wr.cell? ⟨g, j, none⟩ = some (.int .i64 (l.getD j 0)) := by
          rw [hown.cellAt j (by omega)]
          simp [marks_length, List.getElem?_append, List.getD, List.getElem?_eq_getElem hlt]
        have c2 := hown.frozenAt j
        have HO := Lib.hid hown
        have HG := Lib.hid hgr
        clear hown hgr
        have h0 : (0 : Int) ≤ (j : Int) := by omega
        have h1 : (j : Int) < (l.length : Int) := by omega
        go_wp2
        go_roundw
        case rel =>
          have hs := HO.out.stored j (.int .i64 (k + j))
          rw [set_marks k l j hlt] at hs
          exact ⟨j + 1, by omega, by go_num, by go_num, hs.1, grown_trans HG.out hs.2⟩
        case measure => simp [intOf]; omega
      · have he : j = l.length := by omega
        subst he
        have HO := Lib.hid hown
        have HG := Lib.hid hgr
        clear hown hgr
        go_wp2
        go_returns
        refine ⟨rfl, ?_, HG.out⟩
        have := HO.out
        rw [List.drop_length, List.append_nil] at this
        unfold Own
        rw [marks_length]
        exact this

/-! ### toIntS: a copy of the call's own -/
theorem infoInt : (Try.prog.info? 3).map (fun i => (i.zero, i.size, i.bytes)) = some (some (.int .i64 0), 1, 8) := by kernel_rfl
/-- A call that makes a list of its own. -/
def Makes (w : World) (l : List Int) (e : Ending) (w' : World) : Prop := ∃ v, e = .returned v ∧ Own w' w.heap.size v l ∧ Below w.heap.size w w'
theorem made_zeros (n : Nat) : (madeCells #[Value.int .i64 0] n).toList = (List.replicate n (0 : Int)).map (Value.int .i64) := by
  apply List.ext_getElem
  · simp [madeCells]
  · intro i h1 h2
    simp [madeCells, Nat.mod_one]
theorem copy_at (l : List Int) (j : Nat) (hj : j < l.length) : ((l.take j ++ List.replicate (l.length - j) (0 : Int)).map (Value.int .i64))[j]? = some (.int .i64 0) := by
  have ht : (l.take j).length = j := by simp; omega
  rw [List.getElem?_map, List.getElem?_append_right (by omega), ht, Nat.sub_self, List.getElem?_replicate, if_pos (by omega)]
  rfl
theorem set_copy (l : List Int) (m : Nat) (hm : m = l.length) (j : Nat) (hj : j < l.length) : ((l.take j ++ List.replicate (m - j) (0 : Int)).map (Value.int .i64)).set j (.int .i64 (l.getD j 0)) = (l.take (j + 1) ++ List.replicate (m - (j + 1)) (0 : Int)).map (Value.int .i64) := by
  subst hm
  have ht : (l.take j).length = j := by simp; omega
  rw [← List.map_set]
  congr 1
  rw [List.set_append_right _ _ (by rw [ht]; exact Nat.le_refl _), ht, Nat.sub_self, List.take_succ_eq_append_getElem hj]
  rw [show l.length - j = (l.length - (j + 1)) + 1 by omega, List.replicate_succ, List.set_cons_zero, List.append_assoc]
  simp [List.getD, List.getElem?_eq_getElem hj]
set_option maxHeartbeats 400000 in
theorem toIntS_any (v : Value) (l : List Int) (w : World) (hv : IS w v l) (hl : l.length ≤ 1048576) : Calls Try.prog 99 #[v] w (Makes w l) := by
  obtain ⟨i0, hi, hz0, hz1, hz2⟩ := info_parts infoInt
  rcases hv with ⟨rfl, a, cap, rfl⟩ | ⟨hn, b, off, cap, rfl, hm, hc⟩
  · go_enter Try.func99, Try.ntmps99
    go_wp2_with (at_make; refine wpList_make_full _ rfl _ _ 24 rfl w.heap.size 3 i0 (.int .i64 0) 1 Try.underlying24 hi hz0 hz1 _ _ _ _ 0 rfl rfl rfl rfl ?b2 ?b3 (Nat.le_refl _) ?_)
    case b2 => omega
    case b3 => unfold maxLen; omega
    intro w0 hown0 hgrow0
    go_wp2
    go_loop [4] (fun i => i = .int .i64 0) (fun _ => 0)
    case atStart => rfl
    case round =>
      subst hrel
      go_wp2
      go_returns
      exact ⟨_, rfl, by simpa [madeCells, Own] using hown0, (Below.refl _ _).grown hgrow0 (Nat.le_refl _) (fun k h => by cases h)⟩
  · have HC := Lib.hid hc
    clear hc hm hn
    go_enter Try.func99, Try.ntmps99
    go_wp2_with (at_make; refine wpList_make_full _ rfl _ _ 24 rfl w.heap.size 3 i0 (.int .i64 0) 1 Try.underlying24 hi hz0 hz1 _ _ _ _ l.length rfl rfl rfl rfl ?b2 ?b3 (Nat.le_refl _) ?_)
    case b2 => rw [hz2]; omega
    case b3 => unfold maxLen; omega
    intro w0 hown0 hgrow0
    rw [made_zeros] at hown0
    have HO0 := Lib.hid hown0
    have HG0 := Lib.hid hgrow0
    clear hown0 hgrow0
    go_wp2
    go_loopw [4] (fun i wr => ∃ j : Nat, j ≤ l.length ∧ i = .int .i64 j ∧ wr.ownsRow w.heap.size 3 1 (.slice (some ⟨w.heap.size, 0, none⟩) l.length l.length) l.length ((l.take j ++ List.replicate (l.length - j) (0 : Int)).map (Value.int .i64)) ∧ Below w.heap.size w wr) (fun i _ => l.length - (intOf i).toNat)
    case atStart => exact ⟨0, Nat.zero_le _, rfl, by simpa using HO0.out, (Below.refl _ _).grown HG0.out (Nat.le_refl _) (fun k h => by cases h)⟩
    case round =>
      obtain ⟨j, hj, rfl, hown, hbel⟩ := hrel
      by_cases hlt : j < l.length
      · have c1 : wr.cell? ⟨w.heap.size, j, none⟩ = some (.int .i64 0) := by
          rw [hown.cellAt j (by omega)]
          exact copy_at l j hlt
        have c2 := hown.frozenAt j
        obtain ⟨x, hx⟩ : ∃ x, x = l.getD j 0 := ⟨_, rfl⟩
        have c3 := keepc hbel (HC.out j hlt)
        rw [← hx] at c3
        have HX := Lib.hid hx
        clear hx
        have HO := Lib.hid hown
        have HB := Lib.hid hbel
        clear hown hbel
        have h0 : (0 : Int) ≤ (j : Int) := by omega
        have h1 : (j : Int) < (l.length : Int) := by omega
        go_wp2
        go_roundw
        case rel =>
          have hs := HO.out.stored j (.int .i64 x)
          rw [HX.out, set_copy l l.length rfl j hlt] at hs
          rw [← HX.out] at hs
          exact ⟨j + 1, by omega, by go_num, hs.1, HB.out.setCell (Nat.le_refl _) _⟩
        case measure => simp [intOf]; omega
      · have he : j = l.length := by omega
        subst he
        have HO := Lib.hid hown
        have HB := Lib.hid hbel
        clear hown hbel
        go_wp2
        go_returns
        refine ⟨_, rfl, ?_, HB.out⟩
        have := HO.out
        rw [List.take_length, Nat.sub_self] at this
        simpa [Own] using this
end
section
open Go.RowKit

/-- A call that makes a list of its own, and says whether there is one. -/
def MakesB (w : World) (l : List Int) (ok : Bool) (e : Ending) (w' : World) : Prop := ∃ v, e = .returned (.tuple #[v, .bool ok]) ∧ Own w' w.heap.size v l ∧ Below w.heap.size w w'
theorem gjoin {W w w1 : World} {row : Option Nat} (h : Below W.heap.size W w) (hg : w.grownBy w1 row) (hr : ∀ k, row = some k → W.heap.size ≤ k) : Below W.heap.size W w1 := h.grown hg h.size hr
/-- A row made above the size S is not among those of an older value. -/
theorem apart {w : World} {B B' : Nat} {v u : Value} {l m : List Int} {w' : World} (hv : Own w B v l) (hu : Own w' B' u m) (hB : w.heap.size ≤ B') : ∀ k, v.ownBlock = some k → u.ownBlock ≠ some k := by
  intro k hk hk'
  have := (hv.lt k hk).2
  have := (hu.lt k hk').1
  omega

theorem apart' {w : World} {B B' : Nat} {v u : Value} {l m : List Int} {w' : World} (hv : Own w B v l) (hu : Own w' B' u m) (hB : w.heap.size ≤ B') : ∀ k, u.ownBlock = some k → v.ownBlock ≠ some k := by
  intro k hk hk'
  have := (hv.lt k hk').2
  have := (hu.lt k hk).1
  omega

end
section
open Go.RowKit

theorem Own.alloc' {w : World} {B : Nat} {v : Value} {l : List Int} (h : Own w B v l) (o : Obj) : Own (w.alloc o) B v l := World.ownsRow.alloc h o
theorem cell_new0 (w : World) (x y : Value) (T : TypeId) : (w.alloc (.cells #[x, y] T)).cell? ⟨w.heap.size, 0, none⟩ = some x := by rw [World.cell?_alloc_new]; rfl
theorem cell_new1 (w : World) (x y : Value) (T : TypeId) : (w.alloc (.cells #[x, y] T)).cell? ⟨w.heap.size, 1, none⟩ = some y := by rw [World.cell?_alloc_new]; rfl
end
section
open Go.RowKit

theorem rowBelow {w w' : World} {B : Nat} {E : TypeId} {z : Nat} {v : Value} {n : Nat} {xs : List Value} (h : w.ownsRow B E z v n xs) (hb : Below w.heap.size w w') : w'.ownsRow B E z v n xs := by
  refine ⟨h.1, ?_⟩
  rcases h.2 with hn | ⟨g, cap, cur, hv, hg, hh, rest⟩
  · exact .inl hn
  · exact .inr ⟨g, cap, cur, hv, hg, (hb.block g (Array.getElem?_eq_some_iff.1 hh).1).trans hh, rest⟩
theorem rowMono {w : World} {B B' : Nat} {E : TypeId} {z : Nat} {v : Value} {n : Nat} {xs : List Value} (h : w.ownsRow B E z v n xs) (hB : B' ≤ B) : w.ownsRow B' E z v n xs := by
  refine ⟨h.1, ?_⟩
  rcases h.2 with hn | ⟨g, cap, cur, hv, hg, rest⟩
  · exact .inl hn
  · exact .inr ⟨g, cap, cur, hv, Nat.le_trans hB hg, rest⟩
end
section
open Go.RowKit

/-- A call that turns nothing. -/
def Pure (w : World) (v : Value) (e : Ending) (w' : World) : Prop := e = .returned v ∧ w = w'
def inB (n lo hi : Int) : Bool := decide (lo ≤ n) && decide (n ≤ hi)
def allIn (l : List Int) (lo hi : Int) : Bool := l.all (fun n => inB n lo hi)
def isSeq (l : List Int) : Bool := decide (l.length ≤ 32) && allIn l 0 3

theorem allIn_take_succ (l : List Int) (lo hi : Int) (k : Nat) (h : k < l.length) (h1 : allIn (l.take k) lo hi = true) (h2 : inB (l.getD k 0) lo hi = true) : allIn (l.take (k + 1)) lo hi = true := by
  unfold allIn at *
  rw [List.take_succ_eq_append_getElem h, List.all_append, h1]
  simpa [List.getD, h] using h2
theorem allIn_false (l : List Int) (lo hi : Int) (k : Nat) (h : k < l.length) (h2 : inB (l.getD k 0) lo hi = false) : allIn l lo hi = false := by
  unfold allIn
  rw [List.all_eq_false]
  exact ⟨l[k], List.getElem_mem h, by simpa [List.getD, h] using h2⟩
theorem allIn_mem {l : List Int} {lo hi : Int} (h : allIn l lo hi = true) : ∀ z ∈ l, lo ≤ z ∧ z ≤ hi := by
  intro z hz
  have := List.all_eq_true.1 h z hz
  simpa [inB] using this
theorem allIn_getD {l : List Int} {lo hi : Int} (h : allIn l lo hi = true) (k : Nat) (hk : k < l.length) : lo ≤ l.getD k 0 ∧ l.getD k 0 ≤ hi := by
  have := allIn_mem h l[k] (List.getElem_mem hk)
  simpa [List.getD, hk] using this
theorem isSeq_len {l : List Int} (h : isSeq l = true) : l.length ≤ 32 := by simp [isSeq] at h; exact h.1
theorem isSeq_all {l : List Int} (h : isSeq l = true) : allIn l 0 3 = true := by simp [isSeq] at h; exact h.2
theorem isSeq_of {l : List Int} (h1 : l.length ≤ 32) (h2 : allIn l 0 3 = true) : isSeq l = true := by simp [isSeq, h1, h2]

set_option maxHeartbeats 400000 in
theorem l1In_any (n lo hi : Int) (w : World) : Calls Try.prog 122 #[.int .i64 n, .int .i64 lo, .int .i64 hi] w (Pure w (.bool (inB n lo hi))) := by
  go_enter Try.func122, Try.ntmps122
  go_wp2
  all_goals
    go_ret
    exact ⟨ret_bool (by simp only [inB]; simp; omega), rfl⟩

set_option maxHeartbeats 400000 in
theorem l1All_any (v : Value) (l : List Int) (lo hi : Int) (w : World) (hv : IS w v l) : Calls Try.prog 183 #[v, .int .i64 lo, .int .i64 hi] w (Ret w (.bool (allIn l lo hi))) := by
  rcases hv with ⟨rfl, a, cap, rfl⟩ | ⟨hn, b, off, cap, rfl, hm, hc⟩
  · go_enter Try.func183, Try.ntmps183
    go_wp2_with fail
    go_loop [11] (fun i => i = .int .i64 0) (fun _ => 0)
    case atStart => rfl
    case round =>
      subst hrel
      go_wp2_with fail
      go_returns
      exact ⟨rfl, by go_grown⟩
  · have hm2 := maxLen_val
    have hm3 : l.length ≤ 9223372036854775807 := by omega
    have HC := Lib.hid hc
    clear hm hm2 hn hc
    go_enter Try.func183, Try.ntmps183
    go_wp2_with fail
    go_loop [11] (fun i => ∃ k : Nat, k ≤ l.length ∧ i = .int .i64 k ∧ allIn (l.take k) lo hi = true) (fun i => l.length - (intOf i).toNat)
    case atStart => exact ⟨0, Nat.zero_le _, rfl, by simp [allIn]⟩
    case round =>
      obtain ⟨k, hk, rfl, hall⟩ := hrel
      have HA := Lib.hid hall
      clear hall
      by_cases hlt : k < l.length
      · have c1 := HC.out k hlt
        obtain ⟨x, hx⟩ : ∃ x, x = l.getD k 0 := ⟨_, rfl⟩
        rw [← hx] at c1
        have HX := Lib.hid hx
        clear hx
        have h0 : (0 : Int) ≤ (k : Int) := by omega
        have h1 : (k : Int) < (l.length : Int) := by omega
        by_cases hp : inB x lo hi = true
        · go_wp2_with (go_at_call 122; refine (l1In_any _ _ _ _).mono ?_; rintro e w' ⟨rfl, rfl⟩)
          go_round
          case rel => exact ⟨k + 1, by omega, by go_num, allIn_take_succ l lo hi k hlt HA.out (by rw [← HX.out]; exact hp)⟩
          case measure => simp [intOf]; omega
        · have hp2 : inB x lo hi = false := by simpa using hp
          clear hp
          go_wp2_with (go_at_call 122; refine (l1In_any _ _ _ _).mono ?_; rintro e w' ⟨rfl, rfl⟩)
          go_returns
          exact ⟨ret_bool (by rw [allIn_false l lo hi k hlt (by rw [← HX.out]; exact hp2)]), by go_grown⟩
      · have hh := HA.out
        rw [List.take_of_length_le (by omega)] at hh
        have HA2 := Lib.hid hh
        clear hh
        go_wp2_with fail
        go_returns
        exact ⟨ret_bool HA2.out.symm, by go_grown⟩

set_option maxHeartbeats 400000 in
theorem phIs_any (v : Value) (l : List Int) (w : World) (hv : IS w v l) (hl : l.length ≤ 1048576) : Calls Try.prog 110 #[v] w (Ret w (.bool (isSeq l))) := by
  have hvv := hv
  have : ∃ a cap, v = .slice a l.length cap := by rcases hv with ⟨rfl, a, cap, rfl⟩ | ⟨_, b, off, cap, rfl, _⟩ <;> exact ⟨_, _, rfl⟩
  obtain ⟨a, cap, rfl⟩ := this
  by_cases h : l.length ≤ 32
  · go_enter Try.func110, Try.ntmps110
    go_wp2_with (go_at_call 183; refine (l1All_any _ l _ _ _ hvv).mono ?_; rintro e w' ⟨rfl, hb⟩)
    go_returns
    exact ⟨ret_bool (by simp [isSeq, h]), ‹_›⟩
  · go_enter Try.func110, Try.ntmps110
    go_wp2_with fail
    go_returns
    exact ⟨ret_bool (by simp [isSeq, h]), by go_grown⟩

/-! ### the program's IsSequence -/
set_option maxHeartbeats 400000 in
theorem isSequence_any (v : Value) (l : List Int) (w : World) (hv : IS w v l) (hl : l.length ≤ 1048576) : Calls Try.prog 38 #[v] w (Ret w (.bool (isSeq l))) := by
  rcases hv with ⟨rfl, a, cap, rfl⟩ | ⟨hn, b, off, cap, rfl, hm, hc⟩
  · go_enter Try.func38, Try.ntmps38
    go_wp2_with fail
    go_loop [10] (fun i => i = .int .i64 0) (fun _ => 0)
    case atStart => rfl
    case round =>
      subst hrel
      go_wp2_with fail
      go_returns
      exact ⟨rfl, by go_grown⟩
  · have HC := Lib.hid hc
    clear hm hn hc
    by_cases h32 : l.length ≤ 32
    · go_enter Try.func38, Try.ntmps38
      go_wp2_with fail
      go_loop [10] (fun i => ∃ k : Nat, k ≤ l.length ∧ i = .int .i64 k ∧ allIn (l.take k) 0 3 = true) (fun i => l.length - (intOf i).toNat)
      case atStart => exact ⟨0, Nat.zero_le _, rfl, by simp [allIn]⟩
      case round =>
        obtain ⟨k, hk, rfl, hall⟩ := hrel
        have HA := Lib.hid hall
        clear hall
        by_cases hlt : k < l.length
        · have c1 := HC.out k hlt
          obtain ⟨x, hx⟩ : ∃ x, x = l.getD k 0 := ⟨_, rfl⟩
          rw [← hx] at c1
          have HX := Lib.hid hx
          clear hx
          have h0 : (0 : Int) ≤ (k : Int) := by omega
          have h1 : (k : Int) < (l.length : Int) := by omega
          by_cases hp : 0 ≤ x ∧ x ≤ 3
          · obtain ⟨p1, p2⟩ := hp
            go_wp2_with fail
            go_round
            case rel => exact ⟨k + 1, by omega, by go_num, allIn_take_succ l 0 3 k hlt HA.out (by rw [← HX.out]; simp [inB]; omega)⟩
            case measure => simp [intOf]; omega
          · by_cases hx0 : x < 0
            · go_wp2_with fail
              go_returns
              exact ⟨ret_bool (by unfold isSeq; rw [allIn_false l 0 3 k hlt (by rw [← HX.out]; simp [inB]; omega)]; simp), by go_grown⟩
            · have hx1 : 3 < x := by omega
              have hx2 : 0 ≤ x := by omega
              go_wp2_with fail
              go_returns
              exact ⟨ret_bool (by unfold isSeq; rw [allIn_false l 0 3 k hlt (by rw [← HX.out]; simp [inB]; omega)]; simp), by go_grown⟩
        · have hh := HA.out
          rw [List.take_of_length_le (by omega)] at hh
          have HA2 := Lib.hid hh
          clear hh
          go_wp2_with fail
          go_returns
          exact ⟨ret_bool (isSeq_of h32 HA2.out).symm, by go_grown⟩
    · go_enter Try.func38, Try.ntmps38
      go_wp2_with fail
      go_returns
      exact ⟨ret_bool (by simp [isSeq, h32]), by go_grown⟩
end
section
open Go.RowKit

/-- Both are sequences, of one length. -/
def bothB (l m : List Int) : Bool := isSeq l && isSeq m && decide (l.length = m.length)
set_option maxHeartbeats 1000000 in
theorem phBoth_any (va vb : Value) (l m : List Int) (w : World) (hva : IS w va l) (hvb : IS w vb m) (hlen : l.length ≤ 1048576) (hlem : m.length ≤ 1048576) : Calls Try.prog 136 #[va, vb] w (Ret w (.bool (bothB l m))) := by
  obtain ⟨a, cap, hveq⟩ : ∃ a cap, va = .slice a l.length cap := by rcases hva with ⟨rfl, a, cap, rfl⟩ | ⟨_, b, off, cap, rfl, _⟩ <;> exact ⟨_, _, rfl⟩
  obtain ⟨a', cap', hveq'⟩ : ∃ a cap, vb = .slice a m.length cap := by rcases hvb with ⟨rfl, a, cap, rfl⟩ | ⟨_, b, off, cap, rfl, _⟩ <;> exact ⟨_, _, rfl⟩
  subst hveq hveq'
  by_cases hs : isSeq l = true
  · by_cases ht : isSeq m = true
    · have tok1 : True := trivial
      go_enter Try.func136, Try.ntmps136
      go_wp2_with (first
        | (go_at_call 110; have _t := tok1; refine (phIs_any _ l _ hva hlen).mono ?_; rintro e w1 ⟨rfl, hb1⟩; clear tok1)
        | (go_at_call 110; refine (phIs_any _ m _ (hvb.below hb1) hlem).mono ?_; rintro e w2 ⟨rfl, hb2⟩; have hB2 := joins hb1 hb2))
      go_returns
      exact ⟨ret_bool (by by_cases e : l.length = m.length <;> simp [bothB, hs, ht, e] <;> omega), ‹Below w.heap.size w _›⟩
    · have ht2 : isSeq m = false := by simpa using ht
      clear ht
      have tok1 : True := trivial
      go_enter Try.func136, Try.ntmps136
      go_wp2_with (first
        | (go_at_call 110; have _t := tok1; refine (phIs_any _ l _ hva hlen).mono ?_; rintro e w1 ⟨rfl, hb1⟩; clear tok1)
        | (go_at_call 110; refine (phIs_any _ m _ (hvb.below hb1) hlem).mono ?_; rintro e w2 ⟨rfl, hb2⟩; have hB2 := joins hb1 hb2))
      go_returns
      exact ⟨ret_bool (by simp [bothB, ht2]), ‹Below w.heap.size w _›⟩
  · have hs2 : isSeq l = false := by simpa using hs
    clear hs
    go_enter Try.func136, Try.ntmps136
    go_wp2_with (go_at_call 110; refine (phIs_any _ l _ hva hlen).mono ?_; rintro e w1 ⟨rfl, hb1⟩)
    go_returns
    exact ⟨ret_bool (by simp [bothB, hs2]), ‹_›⟩

end
end Go.Proofs.Ytfjhocmnafdnfaa
