/- Slices of bytes; the cursor over one (what the draws take their numbers from). -/
import Derived.Test.YtgjdaeaiheibbabDoorKit
import Derived.Deep.AppendLies
import Derived.WalkSmall
namespace Go.Proofs.YtgjdaeaiheibbabDoor
set_option maxRecDepth 100000
open Go.RowKit

/-- The value reads as the list of bytes l. -/
def BS (w : World) (v : Value) (l : List Int) : Prop :=
  (∀ z ∈ l, 0 ≤ z ∧ z ≤ 255) ∧ ((l = [] ∧ ∃ a cap, v = .slice a 0 cap) ∨
  (l ≠ [] ∧ ∃ b off cap, v = .slice (some ⟨b, off, none⟩) l.length cap ∧ l.length ≤ maxLen ∧ ∀ i, i < l.length → w.cell? ⟨b, off + i, none⟩ = some (.int .u8 (l.getD i 0))))
theorem BS.sl {w : World} {v : Value} {l : List Int} (h : BS w v l) : ∃ a cap, v = .slice a l.length cap := by
  rcases h.2 with ⟨rfl, a, cap, rfl⟩ | ⟨_, b, off, cap, rfl, _, _⟩
  · exact ⟨a, cap, rfl⟩
  · exact ⟨_, cap, rfl⟩
theorem BS.len {w : World} {v : Value} {l : List Int} (h : BS w v l) : l.length ≤ 9223372036854775807 := by
  rcases h.2 with ⟨rfl, _⟩ | ⟨_, b, off, cap, _, h1, _⟩
  · simp
  · have := maxLen_val; omega
theorem getD_mem {l : List Int} {i : Nat} (h : i < l.length) : l.getD i 0 ∈ l := by
  simp [List.getD, h]
theorem cell_grown {w w' : World} {row : Option Nat} {a : Addr} {v : Value} (h : w.cell? a = some v) (hg : w.grownBy w' row) (hl : a.block < w.heap.size) (hne : row ≠ some a.block) : w'.cell? a = some v :=
  (hg.cell_far a hl (fun e => hne e.symm)).trans h
theorem cell_lt {w : World} {a : Addr} {v : Value} (h : w.cell? a = some v) : a.block < w.heap.size := by
  apply Classical.byContradiction
  intro hn
  unfold World.cell? at h
  rw [Array.getElem?_eq_none (by omega)] at h
  cases h
theorem BS.grown {w w' : World} {v : Value} {l : List Int} {row : Option Nat} (h : BS w v l) (hg : w.grownBy w' row) (hne : l ≠ [] → ∀ k, v.ownBlock = some k → row ≠ some k) : BS w' v l := by
  refine ⟨h.1, ?_⟩
  rcases h.2 with h | ⟨hn, b, off, cap, rfl, hm, hc⟩
  · exact Or.inl h
  · exact Or.inr ⟨hn, b, off, cap, rfl, hm, fun i hi => cell_grown (hc i hi) hg (cell_lt (hc i hi)) (hne hn b rfl)⟩
theorem grown_of_below {w w' : World} (h : Below w.heap.size w w') (row : Option Nat) : w.grownBy w' row := ⟨h.os, h.tape, h.output, h.size, fun k hk _ => h.block k hk⟩

/-- The block g is a cursor over the bytes l, at most n bytes on. -/
structure Cu (g : Nat) (cv : Value) (l : List Int) (n : Nat) (w : World) : Prop where
  lt : g < w.heap.size
  c0 : w.cell? ⟨g, 0, none⟩ = some cv
  bs : BS w cv l
  ne : l ≠ [] → ∀ k, cv.ownBlock = some k → k < g
  c1 : ∃ a : Nat, a ≤ n ∧ w.cell? ⟨g, 1, none⟩ = some (.int .i64 a)
  c2 : ∃ s : Int, w.cell? ⟨g, 2, none⟩ = some (.int .u64 s)
  f1 : w.frozen? ⟨g, 1, none⟩ = false
  f2 : w.frozen? ⟨g, 2, none⟩ = false
theorem Cu.grown {g : Nat} {cv : Value} {l : List Int} {n : Nat} {w w' : World} {row : Option Nat} (h : Cu g cv l n w) (hg : w.grownBy w' row) (hr : ∀ k, row = some k → g < k) : Cu g cv l n w' := by
  have hr1 : row ≠ some g := fun e => Nat.lt_irrefl _ (hr g e)
  obtain ⟨a, ha, h1⟩ := h.c1
  obtain ⟨s, h2⟩ := h.c2
  exact ⟨Nat.lt_of_lt_of_le h.lt hg.size, cell_grown h.c0 hg h.lt hr1, h.bs.grown hg (fun hn k hk e => by have := hr k e; have := h.ne hn k hk; omega), h.ne, ⟨a, ha, cell_grown h1 hg h.lt hr1⟩, ⟨s, cell_grown h2 hg h.lt hr1⟩,
    (hg.frozen_far ⟨g, 1, none⟩ h.lt (fun e => hr1 e.symm)).trans h.f1, (hg.frozen_far ⟨g, 2, none⟩ h.lt (fun e => hr1 e.symm)).trans h.f2⟩
theorem Cu.below {g : Nat} {cv : Value} {l : List Int} {n : Nat} {w w' : World} (h : Cu g cv l n w) (hb : Below w.heap.size w w') : Cu g cv l n w' := h.grown (grown_of_below hb none) (fun k e => by cases e)
theorem Cu.more {g : Nat} {cv : Value} {l : List Int} {n m : Nat} {w : World} (h : Cu g cv l n w) (hm : n ≤ m) : Cu g cv l m w := by
  obtain ⟨a, ha, h1⟩ := h.c1
  exact ⟨h.lt, h.c0, h.bs, h.ne, ⟨a, by omega, h1⟩, h.c2, h.f1, h.f2⟩
theorem Cu.start {v : Value} {l : List Int} {w : World} (hv : BS w v l) (T : TypeId) : Cu w.heap.size v l 0 (w.alloc (.cells #[v, .int .i64 0, .int .u64 0] T)) := by
  refine ⟨by simp, by rw [World.cell?_alloc_new]; rfl, hv.grown (World.grownBy_alloc w _ none) (fun _ k _ e => by cases e), fun hn0 k hk => ?_, ⟨0, Nat.le_refl _, by rw [World.cell?_alloc_new]; rfl⟩, ⟨0, by rw [World.cell?_alloc_new]; rfl⟩, World.frozen?_alloc_new .., World.frozen?_alloc_new ..⟩
  rcases hv.2 with ⟨rfl, a, cap, rfl⟩ | ⟨hn, b, off, cap, rfl, hm, hc⟩
  · exact (hn0 rfl).elim
  · cases hk; exact cell_lt (hc 0 (by cases l <;> simp_all))
/-- A method of the cursor: its value, with what is known of it; the cursor k bytes on. -/
def Dr (g : Nat) (cv : Value) (l : List Int) (n : Nat) (w : World) (R : Value → World → Prop) (e : Ending) (w' : World) : Prop := ∃ v, e = .returned v ∧ R v w' ∧ Cu g cv l n w' ∧ w.grownBy w' (some g)
/-- A draw: its value, with what is known of it. -/
def Dw (w : World) (R : Value → World → Prop) (e : Ending) (w' : World) : Prop := ∃ v, e = .returned v ∧ R v w' ∧ Below w.heap.size w w'
theorem grown_set (w : World) (g o : Nat) (v : Value) : w.grownBy (w.setCell ⟨g, o, none⟩ v) (some g) :=
  ⟨rfl, rfl, rfl, by simp, fun k _ hne => heap_setCell_other w ⟨g, o, none⟩ k v (fun e => hne (congrArg some e))⟩
theorem Cu.store {g : Nat} {cv : Value} {l : List Int} {n : Nat} {w : World} (h : Cu g cv l n w) (a : Nat) (ha : a ≤ n + 1) (s : Int) :
    Cu g cv l (n + 1) ((w.setCell ⟨g, 1, none⟩ (.int .i64 a)).setCell ⟨g, 2, none⟩ (.int .u64 s)) := by
  obtain ⟨a0, ha0, c1⟩ := h.c1
  obtain ⟨s0, c2⟩ := h.c2
  refine ⟨by simpa using h.lt, (World.cell?_setCell_other _ _ _ _ (by simp)).trans ((World.cell?_setCell_other _ _ _ _ (by simp)).trans h.c0), (h.bs.grown (grown_set w g 1 _) ?_).grown (grown_set _ g 2 _) ?_, h.ne,
    ⟨a, ha, (World.cell?_setCell_other _ _ _ _ (by simp)).trans (World.cell?_setCell_same _ _ _ c1)⟩, ⟨s, World.cell?_setCell_same _ _ _ ((World.cell?_setCell_other _ _ _ _ (by simp)).trans c2)⟩, by simp [go_sem, h.f1], by simp [go_sem, h.f2]⟩
  · intro hn k hk e
    cases e
    exact Nat.lt_irrefl _ (h.ne hn _ hk)
  · intro hn k hk e
    cases e
    exact Nat.lt_irrefl _ (h.ne hn _ hk)
theorem Cu.drew {g : Nat} {cv : Value} {l : List Int} {n : Nat} {w : World} (h : Cu g cv l n w) : Cu g cv l n w.drew := ⟨h.lt, h.c0, h.bs, h.ne, h.c1, h.c2, h.f1, h.f2⟩
theorem grown_drew {w w' : World} {row : Option Nat} (h : w.grownBy w' row) : w.grownBy w'.drew row := ⟨h.os, h.tape, h.output, h.size, h.block⟩
theorem and_255 (E : Int) (h0 : 0 ≤ E) (h1 : E ≤ 18446744073709551615) : 0 ≤ bits BinOp.and IntKind.u64 E 255 ∧ bits BinOp.and IntKind.u64 E 255 ≤ 255 := by
  have h := bits_and_u64_nat E.toNat 255 (by omega) (by omega)
  rw [Int.toNat_of_nonneg h0] at h
  have h2 : bits BinOp.and IntKind.u64 E 255 = ((E.toNat &&& 255 : Nat) : Int) := h
  have h3 : E.toNat &&& 255 ≤ 255 := Nat.and_le_right
  rw [h2]
  omega
set_option maxRecDepth 100000 in
set_option maxHeartbeats 4000000 in
theorem next_any (g : Nat) (cv : Value) (l : List Int) (n : Nat) (w : World) (h : Cu g cv l n w) (hn : n ≤ 1152921504606846976) :
    Calls Tryd.prog 42 #[.pointer (some ⟨g, 0, none⟩)] w (Dr g cv l (n + 1) w (fun v _ => ∃ x : Int, v = .int .i64 x ∧ 0 ≤ x ∧ x ≤ 255)) := by
  have HH := Lib.hid h
  obtain ⟨a, ha, c1⟩ := h.c1
  obtain ⟨s, c2⟩ := h.c2
  have c0 := h.c0
  have f1 := h.f1
  have f2 := h.f2
  have HL := h.bs.len
  have HS := Lib.hid (fun (x : Int) => h.store (a + 1) (by omega) x)
  have HG := Lib.hid (fun (x : Int) => grown_trans (grown_set w g 1 (.int .i64 ((a + 1 : Nat) : Int))) (grown_set (w.setCell ⟨g, 1, none⟩ (.int .i64 ((a + 1 : Nat) : Int))) g 2 (.int .u64 x)))
  have HW0 := fun (x : Int) => (HS.out x).c0
  have HW1 := fun (x : Int) => (World.cell?_setCell_other (w.setCell ⟨g, 1, none⟩ (.int .i64 ((a + 1 : Nat) : Int))) ⟨g, 2, none⟩ ⟨g, 1, none⟩ (.int .u64 x) (by simp)).trans (World.cell?_setCell_same w ⟨g, 1, none⟩ (.int .i64 ((a + 1 : Nat) : Int)) c1)
  have HW2 := fun (x : Int) => World.cell?_setCell_same (w.setCell ⟨g, 1, none⟩ (.int .i64 ((a + 1 : Nat) : Int))) ⟨g, 2, none⟩ (.int .u64 x) ((World.cell?_setCell_other w ⟨g, 1, none⟩ ⟨g, 2, none⟩ (.int .i64 ((a + 1 : Nat) : Int)) (by simp)).trans c2)
  simp only [Int.natCast_add, Int.cast_ofNat_Int] at HW0 HW1 HW2 HG HS
  obtain ⟨N, hN⟩ : ∃ N, N = l.length := ⟨_, rfl⟩
  have HN := Lib.hid hN
  rw [← hN] at HL
  by_cases hlt : a < N
  · have hlt' : a < l.length := by omega
    obtain ⟨hb255, h2⟩ := h.bs
    rcases h2 with ⟨rfl, -⟩ | ⟨hne, b, off, cap, rfl, hm, hcell⟩
    · simp at hlt'
    have cb := hcell a hlt'
    obtain ⟨hx0, hx1⟩ := hb255 _ (getD_mem hlt')
    obtain ⟨x, hx2⟩ : ∃ x, x = l.getD a 0 := ⟨_, rfl⟩
    rw [← hx2] at cb hx0 hx1
    rw [← hN] at c0 HW0
    clear h hcell hb255 hne hm hN hx2 hlt'
    have h0 : (0 : Int) ≤ (a : Int) := by omega
    have h1 : (a : Int) < (N : Int) := by omega
    go_enter Tryd.func42, Tryd.ntmps42
    go_wp2_with fail
    go_region
    go_wp2_with fail
    go_region
    go_wp2_with fail
    obtain ⟨U, hU⟩ : ∃ U, U = IntKind.u64.wrap (IntKind.u64.wrap (IntKind.u64.wrap (s * 6364136223846793005) + x) + 1442695040888963407) := ⟨_, rfl⟩
    rw [← hU]
    have k0 := HW0 U
    have k1 := HW1 U
    clear HW0 HW1 HW2 hU
    go_region
    go_wp2_with fail
    all_goals
      go_returns
      exact ⟨_, rfl, ⟨x, rfl, hx0, hx1⟩, (HS.out U).drew.drew.drew, grown_drew (grown_drew (grown_drew (HG.out U)))⟩
  · have h1 : ¬ (a : Int) < (N : Int) := by omega
    have h3 : ¬ ((a : Int) + 1) ≤ (N : Int) := by omega
    obtain ⟨pa, ca, hcv⟩ := h.bs.sl
    rw [← hN] at hcv
    subst hcv
    have HNN := Lib.hid hN
    clear h hN
    go_enter Tryd.func42, Tryd.ntmps42
    go_wp2_with fail
    go_region
    go_wp2_with fail
    obtain ⟨U, hU⟩ : ∃ U, U = IntKind.u64.wrap (IntKind.u64.wrap (IntKind.u64.wrap (s * 6364136223846793005)) + 1442695040888963407) := ⟨_, rfl⟩
    rw [← hU]
    have k0 := HW0 U
    have k1 := HW1 U
    have k2 := HW2 U
    have hU0 : 0 ≤ U ∧ U < 18446744073709551616 := by rw [hU, IntKind.wrap_u64]; omega
    obtain ⟨Z, hZ⟩ : ∃ Z, Z = bits BinOp.and IntKind.u64 (U / 1099511627776) 255 := ⟨_, rfl⟩
    have hZ2 := and_255 (U / 1099511627776) (by omega) (by omega)
    rw [← hZ] at hZ2
    have HZ := Lib.hid hZ
    have HZ2 := Lib.hid hZ2
    clear HW0 HW1 HW2 hU hZ hU0 hZ2
    go_region
    go_wp2_with fail
    all_goals
      rw [← HZ.out]
      have hw : wrap64 Z = Z := by have := HZ2.out; unfold wrap64; omega
      rw [hw]
      go_returns
      exact ⟨_, rfl, ⟨Z, rfl, HZ2.out.1, HZ2.out.2⟩, (HS.out U).drew.drew, grown_drew (grown_drew (HG.out U))⟩
theorem grown_tr {w w1 w2 : World} {row : Option Nat} (h : w.grownBy w1 row) (h' : w1.grownBy w2 row) : w.grownBy w2 row := grown_trans h h'
set_option maxRecDepth 100000 in
set_option maxHeartbeats 4000000 in
theorem pick_any (g : Nat) (cv : Value) (l : List Int) (n : Nat) (w : World) (m : Int) (h : Cu g cv l n w) (hn : n ≤ 1152921504606846970) (h1 : 1 ≤ m) (h2 : m ≤ 1000000) :
    Calls Tryd.prog 31 #[.pointer (some ⟨g, 0, none⟩), .int .i64 m] w (Dr g cv l (n + 2) w (fun v _ => ∃ x : Int, v = .int .i64 x ∧ 0 ≤ x ∧ x < m)) := by
  have H1 := Lib.hid (next_any g cv l n w h (by omega))
  have H2 := Lib.hid (fun w' (h' : Cu g cv l (n + 1) w') => next_any g cv l (n + 1) w' h' (by omega))
  have HC := Lib.hid h
  clear h
  by_cases hm : m ≤ 1
  · go_enter Tryd.func31, Tryd.ntmps31
    go_wp2_with fail
    go_returns
    exact ⟨_, rfl, ⟨0, rfl, by omega, by omega⟩, HC.out.more (by omega), World.grownBy.refl _ _⟩
  · have hz : ¬ m = 0 := by omega
    have hz2 : ¬ m = -1 := by omega
    by_cases hm2 : m > 200
    · go_enter Tryd.func31, Tryd.ntmps31
      go_wp2_with fail
      refine H1.out.mono ?_
      rintro e w1 ⟨v1, rfl, ⟨x, rfl, hx0, hx1⟩, hc1, hg1⟩
      have HN := Lib.hid (H2.out w1 hc1)
      have HG1 := Lib.hid hg1
      clear hc1 hg1
      go_wp2_with fail
      refine HN.out.mono ?_
      rintro e w2 ⟨v2, rfl, ⟨y, rfl, hy0, hy1⟩, hc2, hg2⟩
      have HC2 := Lib.hid hc2
      have HG2 := Lib.hid (grown_tr HG1.out hg2)
      clear hc2 hg2
      go_wp2_with fail
      go_returns
      exact ⟨_, rfl, ⟨_, rfl, Int.emod_nonneg _ hz, Int.emod_lt_of_pos _ (by omega)⟩, HC2.out, HG2.out⟩
    · go_enter Tryd.func31, Tryd.ntmps31
      go_wp2_with fail
      refine H1.out.mono ?_
      rintro e w1 ⟨v1, rfl, ⟨x, rfl, hx0, hx1⟩, hc1, hg1⟩
      have HC1 := Lib.hid hc1
      have HG1 := Lib.hid hg1
      clear hc1 hg1
      go_wp2_with fail
      go_returns
      exact ⟨_, rfl, ⟨_, rfl, Int.emod_nonneg _ hz, Int.emod_lt_of_pos _ (by omega)⟩, HC1.out.more (by omega), HG1.out⟩
set_option maxHeartbeats 1000000 in
theorem one_any (g : Nat) (cv : Value) (l : List Int) (n : Nat) (w : World) (m : Int) (h : Cu g cv l n w) (hn : n ≤ 1152921504606846970) (h1 : 1 ≤ m) (h2 : m ≤ 1000000) :
    Calls Tryd.prog 48 #[.pointer (some ⟨g, 0, none⟩), .int .i64 m] w (Dr g cv l (n + 2) w (fun v _ => ∃ b : Bool, v = .bool b)) := by
  have HP := Lib.hid (pick_any g cv l n w m h hn h1 h2)
  clear h
  go_enter Tryd.func48, Tryd.ntmps48
  go_wp2_with fail
  refine HP.out.mono ?_
  rintro e w1 ⟨v1, rfl, ⟨x, rfl, hx0, hx1⟩, hc1, hg1⟩
  have HC1 := Lib.hid hc1
  have HG1 := Lib.hid hg1
  clear hc1 hg1
  go_wp2_with fail
  go_returns
  exact ⟨_, rfl, ⟨_, rfl⟩, HC1.out, HG1.out⟩
theorem IS.grown {w w' : World} {v : Value} {l : List Int} {row : Option Nat} (h : IS w v l) (hg : w.grownBy w' row) (hne : l ≠ [] → ∀ k, v.ownBlock = some k → row ≠ some k) : IS w' v l := by
  rcases h with h | ⟨hn, b, off, cap, rfl, hm, hc⟩
  · exact Or.inl h
  · exact Or.inr ⟨hn, b, off, cap, rfl, hm, fun i hi => cell_grown (hc i hi) hg (cell_lt (hc i hi)) (hne hn b rfl)⟩
theorem own_lit {w : World} {B g : Nat} {l : List Int} (hg : B ≤ g) (h : w.heap[g]? = some (.cells (l.map (Value.int .i64)).toArray 3 (0, 0))) (hl : l.length ≤ maxLen) : Own w B (.slice (some ⟨g, 0, none⟩) l.length l.length) l :=
  ⟨by simp, Or.inr ⟨g, l.length, _, rfl, hg, h, Nat.le_refl _, hl, by simp, by simp [List.take_of_length_le]⟩⟩
set_option maxHeartbeats 2000000 in
/-- An element of a list that shares no memory with the cursor. -/
theorem among_any (g : Nat) (cv : Value) (l : List Int) (n : Nat) (w : World) (vl : Value) (L : List Int) (h : Cu g cv l n w) (hn : n ≤ 1152921504606846970) (hL : IS w vl L) (hne : L ≠ []) (hlen : L.length ≤ 1000000) (hg : ∀ k, vl.ownBlock = some k → k ≠ g) :
    Calls Tryd.prog 49 #[.pointer (some ⟨g, 0, none⟩), vl] w (Dr g cv l (n + 2) w (fun v _ => ∃ x ∈ L, v = .int .i64 x)) := by
  have hpos : 0 < L.length := List.length_pos_iff.2 hne
  have HP := Lib.hid (pick_any g cv l n w L.length h hn (by omega) (by omega))
  rcases hL with ⟨rfl, -⟩ | ⟨-, b, off, cap, rfl, hm, hc⟩
  · exact (hne rfl).elim
  have HC := Lib.hid (fun w' (h' : w.grownBy w' (some g)) i (hi : i < L.length) => cell_grown (hc i hi) h' (cell_lt (hc i hi)) (fun e => hg b rfl (by cases e; rfl)))
  obtain ⟨N, hN⟩ : ∃ N, N = L.length := ⟨_, rfl⟩
  have HNN := Lib.hid hN
  rw [← hN] at HP HC hpos hlen ⊢
  clear hc hN hm hg
  go_enter Tryd.func49, Tryd.ntmps49
  go_wp2_with fail
  refine HP.out.mono ?_
  rintro e w1 ⟨v1, rfl, ⟨x, rfl, hx0, hx1⟩, hc1, hg1⟩
  obtain ⟨i, rfl⟩ : ∃ i : Nat, x = i := ⟨x.toNat, (Int.toNat_of_nonneg hx0).symm⟩
  have cc := HC.out w1 hg1 i (by omega)
  have HM := Lib.hid (getD_mem (l := L) (i := i) (by have := HNN.out; omega))
  have HC1 := Lib.hid hc1
  have HG1 := Lib.hid hg1
  obtain ⟨y, hy⟩ : ∃ y, y = L.getD i 0 := ⟨_, rfl⟩
  rw [← hy] at cc HM
  clear hc1 hg1 hy
  go_wp2_with fail
  go_returns
  exact ⟨_, rfl, ⟨y, HM.out, rfl⟩, HC1.out, HG1.out⟩
end Go.Proofs.YtgjdaeaiheibbabDoor
