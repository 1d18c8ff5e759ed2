/- slices.Clone of a list of whole numbers. The model's clOrbit. -/
import Derived.Lib.SliceRun
import Derived.Test.YtcagiecgbjnefabPhs
import Derived.Test.YtcagiecgbjnefabSCr
import Derived.Test.YtcagiecgbjnefabClR
import Derived.Test.YtcagiecgbjnefabSClB
import Derived.Test.YtcagiecgbjnefabApps
namespace Go.Proofs.Ytcagiecgbjnefab
set_option maxRecDepth 100000
section
open Go.RowKit

theorem own_empty (w : World) : Own (w.alloc (.cells #[] 3)) w.heap.size (.slice (some ⟨w.heap.size, 0, none⟩) 0 0) [] :=
  ⟨rfl, Or.inr ⟨w.heap.size, 0, #[], rfl, Nat.le_refl _, heap_alloc_new _ _, Nat.le_refl _, Nat.zero_le _, rfl, rfl⟩⟩
set_option maxHeartbeats 1000000 in
theorem clone_any (l : List Int) (v : Value) (w : World) (hl : l.length ≤ 1048576) (hv : IS w v l) : Calls Try.prog 77 #[v] w (Makes w l) := by
  have HV := Lib.hid hv
  have HL := Lib.hid hl
  have HE := Lib.hid (own_empty w)
  have HB := Lib.hid (belowa (Below.refl w.heap.size w) (.cells #[] 3))
  obtain ⟨a, cap, rfl⟩ := hv.slice
  have hn : a = none → l = [] := fun e => by
    rcases hv with ⟨h, _⟩ | ⟨_, b, off, cap', h, _⟩
    · exact h
    · subst e; simp at h
  have q22 : ∀ (w : World) (a : Option Addr) (n c n' c' : Nat), (binOp .eql 22 (.slice a n c) (.slice none n' c')).run Try.prog w = .ok (.bool a.isNone) w := fun w a n c n' c' => Lib.run_eql_slice_nil w _ _ a n c n' c' Try.underlying22
  clear hv hl
  cases a with
  | none =>
    have HN := Lib.hid (hn rfl)
    clear hn
    go_enter Try.func77, Try.ntmps77
    go_wp2_with fail
    go_returns
    exact ⟨_, rfl, by rw [HN.out]; exact World.ownsRow_nil _ _ _ _, Below.refl _ _⟩
  | some a =>
    clear hn
    go_enter Try.func77, Try.ntmps77
    go_wp2_with (at_builtin; refine wpList_pushAll rfl _ _ rfl w.heap.size _ [] rfl HE.out _ l rfl (HV.out.below HB.out) (Nat.zero_le _) HL.out w.heap.size w HB.out (Nat.le_refl _) HB.out.size HB.out.size ?_; intro v3 w3 ho3 hb3; have HO3 := Lib.hid ho3; have HB3 := Lib.hid hb3; clear ho3 hb3)
    go_returns
    exact ⟨_, rfl, HO3.out, HB3.out⟩
end
section
open Go.RowKit

theorem heldBelow {W w : World} (h : W.grownBy w none) : Below W.heap.size W w := (Below.refl _ _).grown h (Nat.le_refl _) (fun k e => by cases e)
theorem grown_in {W w w' : World} {row : Option Nat} (h : W.grownBy w none) (h' : w.grownBy w' row) (hr : ∀ k, row = some k → W.heap.size ≤ k) : W.grownBy w' none := h.andThen h' (fun j e => Or.inl (hr j e))
theorem cell9_one (w : World) (v : Value) (T : TypeId) : (w.alloc (.cells #[v] T)).cell? ⟨w.heap.size, 0, none⟩ = some v := by rw [cell_of_row _ _ _ _ _ _ (heap_alloc_new w _)]; rfl
/-- A whole list behind one of the call's own, in a region that draws. -/
theorem step_joinI {ops : Array Oper} {o : Oper} {a : Act} {w : World} {K : Act → World → Prop} {Q : Exit → Act → World → Prop} {E : Prop} (hg : o.guard = none) (s x : Operand)
    (ho : o.op = .call { callee := .builtin .append, args := #[s, x], argTypes := #[22, 22] }) (B : Nat) (v : Value) (l : List Int) (hs : a.eval s = v) (hown : Own w B v l)
    (u : Value) (m : List Int) (hx : a.eval x = u) (hu : IS w u m) (hlen : l.length ≤ 1048576) (hlem : m.length ≤ 1048576) (hB : B ≤ w.heap.size)
    (hK : ∀ v' w', Own w' B v' (l ++ m) → w.grownBy w' v.ownBlock → K (a.put o.dst v') w') :
    if Region.wanted o (yielded ops a.tmps) = true then Oper.wp Try.prog o a w K Q else E := by
  have hw : Region.wanted o (yielded ops a.tmps) = true := by simp [Region.wanted, hg]
  rw [if_pos hw]
  obtain ⟨i0, hi, hz0, hz1, hz2⟩ := info_parts infoInt
  have key : ∀ v' w', w'.ownsRow B 3 1 v' (l.length + m.length) (l.map (Value.int .i64) ++ m.map (Value.int .i64)) → w.grownBy w' v.ownBlock → K (a.put o.dst v') w' := by
    intro v' w' hown' hgr
    refine hK v' w' ?_ hgr
    unfold Own
    rw [List.length_append, List.map_append]
    exact hown'
  rcases hu with ⟨rfl, ad, cap, rfl⟩ | ⟨hn, b, off, cap, rfl, _, hc⟩
  · cases ad with
    | none =>
      have hrun := run_append_none (P := Try.prog) w B 22 o.type 3 i0 1 Try.underlying22 hi v l.length (l.map (Value.int .i64)) hown cap
      unfold Oper.wp
      simp [execOp, ho, resolve, invoke, builtin, hs, hx, hrun, Result.andThen]
      exact key v w (by have h := hown; unfold Own at h; simpa using h) (World.grownBy.refl _ _)
    | some ad =>
      exact wp_append_own w s x 22 ho B 3 i0 (.int .i64 0) 1 8 Try.underlying22 hi hz0 hz1 hz2 rfl (by decide) v l.length (l.map (Value.int .i64)) hs hown ad 0 cap [] hx rfl (by simp) (by simp) (by unfold maxLen; omega) (by omega) hB (fun v' w' h1 h2 _ => key v' w' (by simpa using h1) h2)
  · refine wp_append_own w s x 22 ho B 3 i0 (.int .i64 0) 1 8 Try.underlying22 hi hz0 hz1 hz2 rfl (by decide) v l.length (l.map (Value.int .i64)) hs hown ⟨b, off, none⟩ m.length cap (m.map (Value.int .i64)) hx (by simp) ?_ ?_ (by unfold maxLen; omega) (by omega) hB (fun v' w' h1 h2 _ => key v' w' h1 h2)
    · intro j u hj
      have hjl : j < m.length := by have := (List.getElem?_eq_some_iff.1 hj).1; simpa using this
      rw [Addr.add_lit, hc j hjl, ← hj]
      simp [List.getD, hjl]
    · intro u hu
      simp only [List.mem_map] at hu
      obtain ⟨y, _, rfl⟩ := hu
      rfl
/-- Values of one cell behind a list of such of the call's own. -/
theorem wpList_joinV {ops : Array Oper} {rest : List Oper} {o : Oper} {a : Act} {w : World} {Q : Exit → Act → World → Prop} (hg : o.guard = none) (s x : Operand)
    (ho : o.op = .call { callee := .builtin .append, args := #[s, x], argTypes := #[23, 23] }) (B : Nat) (v : Value) (rs : List Value) (hs : a.eval s = v)
    (hown : w.ownsRow B 22 1 v rs.length rs)
    (ad : Option Addr) (c : Nat) (rs2 : List Value) (n : Nat) (hx : a.eval x = .slice ad n c) (hn : n = rs2.length) (hc : 0 < rs2.length → ∃ A, ad = some A ∧ ∀ j u, rs2[j]? = some u → w.cell? (A.add j) = some u) (h1 : ∀ u ∈ rs2, u.oneCell' = true)
    (hlen : rs.length ≤ 1048576) (hlen2 : rs2.length ≤ 1048576)
    (S : Nat) (w0 : World) (hb : Below S w0 w) (hS : S ≤ B) (hB : B ≤ w.heap.size) (hSw : S ≤ w.heap.size)
    (hK : ∀ v' w', w'.ownsRow B 22 1 v' (rs ++ rs2).length (rs ++ rs2) → Below S w0 w' → wpList Try.prog ops Q rest (a.put o.dst v') w') : wpList Try.prog ops Q (o :: rest) a w := by
  obtain ⟨i0, hi, hz0, hz1, hz2⟩ := info_parts infoRow
  subst hn
  have key : ∀ v' w', w'.ownsRow B 22 1 v' (rs.length + rs2.length) (rs ++ rs2) → w.grownBy w' v.ownBlock → wpList Try.prog ops Q rest (a.put o.dst v') w' := fun v' w' h2 h3 => by
    refine hK v' w' ?_ (hb.grown h3 hSw (fun k hk => Nat.le_trans hS (hown.lt k hk).1))
    rw [List.length_append]; exact h2
  cases ad with
  | none =>
    have h0 : rs2 = [] := by
      cases rs2 with
      | nil => rfl
      | cons u r => obtain ⟨A, e, _⟩ := hc (by simp); cases e
    subst h0
    refine wpList_plain hg fun K hK' => ?_
    have hrun := run_append_none (P := Try.prog) w B 23 o.type 22 i0 1 Try.underlying23 hi v rs.length rs hown c
    unfold Oper.wp
    simp only [List.length_nil] at hx
    simp [execOp, ho, resolve, invoke, builtin, hs, hx, hrun, Result.andThen]
    exact hK' _ _ (key v w (by simpa using hown) (World.grownBy.refl _ _))
  | some A =>
    refine wpList_append_own w hg s x 23 ho B 22 i0 (.slice none 0 0) 1 24 Try.underlying23 hi hz0 hz1 hz2 rfl (by decide) v rs.length rs hs hown A rs2.length c rs2 hx (by simp) ?_ h1 (by unfold maxLen; omega) (by omega) hB (fun v' w' h1 h2 _ => key v' w' h1 h2)
    intro j u hj
    have hlt : 0 < rs2.length := by have := (List.getElem?_eq_some_iff.1 hj).1; omega
    obtain ⟨A', e, h2⟩ := hc hlt
    cases e
    exact h2 j u hj
/-- Rows with what they read as: each of the call's own, no two in one block. -/
def ApartV (p q : Value × List Int) : Prop := ∀ k, p.1.ownBlock = some k → q.1.ownBlock ≠ some k
theorem ApartV.symm {p q : Value × List Int} (h : ApartV p q) : ApartV q p := fun k h1 h2 => h k h2 h1
structure PR (w : World) (B : Nat) (P : List (Value × List Int)) : Prop where
  own : ∀ p ∈ P, Own w B p.1 p.2
  apart : P.Pairwise ApartV
theorem PR.below {w w' : World} {B : Nat} {P : List (Value × List Int)} (h : PR w B P) (hb : Below w.heap.size w w') : PR w' B P := ⟨fun p hp => (h.own p hp).below hb, h.apart⟩
theorem PR.put {w : World} {B : Nat} {P : List (Value × List Int)} (h : PR w B P) (j : Nat) {v : Value} {l : List Int} (hv : Own w B v l) (ha : ∀ p ∈ P, ApartV (v, l) p) : PR w B (P.take j ++ (v, l) :: P.drop j) := by
  have hp : (P.take j ++ (v, l) :: P.drop j).Perm ((v, l) :: P) := by
    refine List.perm_middle.trans ?_
    rw [List.take_append_drop]
  refine ⟨fun p hp' => ?_, (hp.symm.pairwise_iff (fun {a b} h => ApartV.symm h)).1 (List.pairwise_cons.2 ⟨ha, h.apart⟩)⟩
  rcases List.mem_cons.1 (hp.mem_iff.1 hp') with rfl | e
  · exact hv
  · exact h.own p e
theorem PR.rows {w : World} {B : Nat} {P : List (Value × List Int)} (h : PR w B P) : RowsOf w B (P.map (·.1)) (P.map (·.2)) := by
  have hat : ∀ i, i < P.length → (P.map (·.1)).getD i (.slice none 0 0) = (P[i]?.getD (.slice none 0 0, [])).1 ∧ (P.map (·.2)).getD i [] = (P[i]?.getD (.slice none 0 0, [])).2 := fun i hi => by simp [List.getD, hi]
  refine ⟨by simp, fun i hi => ?_, fun i j hij hj k hk hk' => ?_⟩
  · have hi' : i < P.length := by simpa using hi
    obtain ⟨h1, h2⟩ := hat i hi'
    rw [h1, h2, List.getElem?_eq_getElem hi']
    exact h.own _ (List.getElem_mem hi')
  · have hj' : j < P.length := by simpa using hj
    obtain ⟨h1, -⟩ := hat i (by omega)
    obtain ⟨h2, -⟩ := hat j hj'
    rw [h1, List.getElem?_eq_getElem (by omega)] at hk
    rw [h2, List.getElem?_eq_getElem hj'] at hk'
    exact List.pairwise_iff_getElem.1 h.apart i j (by omega) hj' hij k hk hk'
/-- The orbit under way: the rows, the outer list, the ranks. -/
structure Orb (w : World) (B : Nat) (P : List (Value × List Int)) (o q : Value) (L : List (List Int)) : Prop where
  rows : PR w B P
  is : P.map (·.2) = L
  ranks : Own w B q (L.map rk)
  outer : ∃ b, w.ownsRow b 22 1 o (P.map (·.1)).length (P.map (·.1)) ∧ B ≤ b ∧ ∀ p ∈ P, ∀ k, p.1.ownBlock = some k → k < b
theorem Orb.below {w w' : World} {B : Nat} {P : List (Value × List Int)} {o q : Value} {L : List (List Int)} (h : Orb w B P o q L) (hb : Below w.heap.size w w') : Orb w' B P o q L := by
  obtain ⟨b, h1, h2⟩ := h.outer
  exact ⟨h.rows.below hb, h.is, h.ranks.below hb, b, rowBelow h1 hb, h2⟩
theorem Orb.done {w : World} {B : Nat} {P : List (Value × List Int)} {o q : Value} {L : List (List Int)} (h : Orb w B P o q L) : OwnR w B o L := by
  obtain ⟨b, h1, h2, h3⟩ := h.outer
  have hl : (P.map (·.1)).length = L.length := by rw [← h.is]; simp
  refine ⟨P.map (·.1), by rw [← hl]; exact rowMono h1 h2, by rw [← h.is]; exact h.rows.rows, fun i hi k hk hk' => ?_⟩
  have hi' : i < P.length := by rw [← hl] at hi; simpa using hi
  have e : (P.map (·.1)).getD i (.slice none 0 0) = P[i].1 := by simp [List.getD, hi']
  rw [e] at hk
  have := h3 _ (List.getElem_mem hi') k hk
  have := (World.ownsRow.lt h1 k hk').1
  omega
theorem rank_small (l : List Int) (h : isSeq l = true) (h15 : l.length ≤ 15) : 0 ≤ rk l ∧ rk l ≤ 1073741824 := by
  have := rankF_small l h h15 l.length (Nat.le_refl _)
  rw [List.take_length, rank_rk] at this
  exact this
/-- Half of an own list of one cell each: the address behind a cut. -/
def cutA (a : Option Addr) (cap j : Nat) : Option Addr := if cap = j then a else a.map (fun ad => ad.add j)
theorem cutA_zero (a : Option Addr) (cap : Nat) : cutA a cap 0 = a := by
  unfold cutA
  split
  · rfl
  · cases a with
    | none => rfl
    | some A => cases A; rfl
theorem cut_h (t : TypeId) (e : TypeId) (ht : Try.prog.underlying t = some (.slice e)) (he : Try.prog.elem t = e) (hs : ∀ w, (sizeOf e).run Try.prog w = .ok 1 w) (a : Option Addr) (n cap j : Nat) (hj : j ≤ cap) (w : World) :
    (Instr.sliceAt t (.slice a n cap) none (some (.int .i64 j)) none).run Try.prog w = .ok (.slice (cutA a cap 0) j cap) w := by
  have hu : Try.prog.underlying t = some (.slice (Try.prog.elem t)) := by rw [he]; exact ht
  have hsz : (sizeOf (Try.prog.elem t)).run Try.prog w = .ok 1 w := by rw [he]; exact hs w
  rw [run_sliceAt_slice w _ _ _ _ _ hu, run_slice_h w _ _ _ _ hu _ _ (by omega) (by omega), hsz, Result.andThen_ok]
  unfold sliced cutA
  simp
theorem cut_l (t : TypeId) (e : TypeId) (ht : Try.prog.underlying t = some (.slice e)) (he : Try.prog.elem t = e) (hs : ∀ w, (sizeOf e).run Try.prog w = .ok 1 w) (a : Option Addr) (n cap j : Nat) (hj : j ≤ n) (w : World) :
    (Instr.sliceAt t (.slice a n cap) (some (.int .i64 j)) none none).run Try.prog w = .ok (.slice (cutA a cap j) (n - j) (cap - j)) w := by
  have hu : Try.prog.underlying t = some (.slice (Try.prog.elem t)) := by rw [he]; exact ht
  have hsz : (sizeOf (Try.prog.elem t)).run Try.prog w = .ok 1 w := by rw [he]; exact hs w
  rw [run_sliceAt_slice w _ _ _ _ _ hu, run_slice_l w _ _ _ _ hu _ _ (by omega) (by omega), hsz, Result.andThen_ok]
  unfold sliced cutA
  simp
theorem cut_cells {w : World} {B n cap : Nat} {E : TypeId} {a : Option Addr} {xs : List Value} (h : w.ownsRow B E 1 (.slice a n cap) n xs) (j : Nat) (hj : j ≤ n) :
    n ≤ cap ∧ (0 < (xs.take j).length → ∃ A, cutA a cap 0 = some A ∧ ∀ i u, (xs.take j)[i]? = some u → w.cell? (A.add i) = some u) ∧ (0 < (xs.drop j).length → ∃ A, cutA a cap j = some A ∧ ∀ i u, (xs.drop j)[i]? = some u → w.cell? (A.add i) = some u) := by
  have hl := h.1
  rw [Nat.mul_one] at hl
  rcases h.2 with ⟨e, h0⟩ | ⟨g, cap', cur, hv, hg, hh, hn, rest⟩
  · simp only [Value.slice.injEq] at e
    obtain ⟨rfl, _, rfl⟩ := e
    have hx : xs = [] := List.eq_nil_of_length_eq_zero (by omega)
    subst hx
    exact ⟨by omega, fun h => by simp at h, fun h => by simp at h⟩
  · simp only [Value.slice.injEq] at hv
    obtain ⟨rfl, _, rfl⟩ := hv
    have hc := World.ownsRow.cells h (g := g) rfl
    refine ⟨hn, fun hp => ⟨⟨g, 0, none⟩, ?_, fun i u hi => ?_⟩, fun hp => ⟨⟨g, j, none⟩, ?_, fun i u hi => ?_⟩⟩
    · unfold cutA; split <;> simp [Addr.add_lit]
    · refine hc i u ?_
      rw [List.getElem?_take] at hi
      split at hi
      · exact hi
      · cases hi
    · have : ¬ cap = j := by rw [List.length_drop] at hp; omega
      unfold cutA; simp [this, Addr.add_lit]
    · rw [List.getElem?_drop] at hi
      have := hc (j + i) u hi
      rw [Addr.add_lit] at this ⊢
      simpa using this
theorem Own.cell9 {w : World} {B g cap n : Nat} {l : List Int} (h : Own w B (.slice (some ⟨g, 0, none⟩) n cap) l) (i : Nat) (hi : i < l.length) : w.cell? ⟨g, i, none⟩ = some (.int .i64 (l.getD i 0)) := by
  have := World.ownsRow.cells h (g := g) rfl i (.int .i64 (l.getD i 0)) (by simp [List.getD, hi])
  rwa [Addr.add_lit, Nat.zero_add] at this
theorem cut_is {w : World} {B n cap : Nat} {a : Option Addr} {l : List Int} (h : Own w B (.slice a n cap) l) (hn : n = l.length) (j : Nat) (hj : j ≤ n) : n ≤ cap ∧ IS w (.slice (cutA a cap 0) j cap) (l.take j) ∧ IS w (.slice (cutA a cap j) (n - j) (cap - j)) (l.drop j) := by
  subst hn
  have hm := h.len
  rcases h.2 with ⟨e, h0⟩ | ⟨g, cap', cur, hv, hg, hh, hcp, rest⟩
  · simp only [Value.slice.injEq] at e
    obtain ⟨rfl, _, rfl⟩ := e
    have hx : l = [] := List.eq_nil_of_length_eq_zero h0
    subst hx
    simp at hj
    subst hj
    exact ⟨Nat.le_refl _, Or.inl ⟨rfl, _, _, rfl⟩, Or.inl ⟨rfl, _, _, rfl⟩⟩
  · simp only [Value.slice.injEq] at hv
    obtain ⟨rfl, _, rfl⟩ := hv
    have hc := fun i (hi : i < l.length) => Own.cell9 h i hi
    refine ⟨hcp, ?_, ?_⟩
    · by_cases e : l.take j = []
      · have hj0 : j = 0 := by
          have := congrArg List.length e
          rw [List.length_take, List.length_nil] at this; omega
        exact Or.inl ⟨e, cutA (some ⟨g, 0, none⟩) cap 0, cap, by rw [hj0]⟩
      · refine Or.inr ⟨e, g, 0, cap, ?_, by rw [List.length_take]; omega, fun i hi => ?_⟩
        · have : cutA (some ⟨g, 0, none⟩) cap 0 = some ⟨g, 0, none⟩ := by unfold cutA; split <;> simp [Addr.add_lit]
          rw [this, List.length_take, Nat.min_eq_left hj]
        · rw [List.length_take] at hi
          rw [Nat.zero_add, hc i (by omega)]
          simp [List.getD, show i < j by omega]
    · by_cases e : l.drop j = []
      · have hj0 : l.length - j = 0 := by
          have := congrArg List.length e
          rwa [List.length_drop, List.length_nil] at this
        exact Or.inl ⟨e, _, _, by rw [hj0]⟩
      · have hne : ¬ cap = j := fun e2 => e (List.drop_eq_nil_of_le (by omega))
        refine Or.inr ⟨e, g, j, cap - j, ?_, by rw [List.length_drop]; omega, fun i hi => ?_⟩
        · have : cutA (some ⟨g, 0, none⟩) cap j = some ⟨g, j, none⟩ := by unfold cutA; simp [hne, Addr.add_lit]
          rw [this, List.length_drop]
        · rw [List.length_drop] at hi
          rw [hc (j + i) (by omega)]
          simp [List.getD, List.getElem?_drop]
theorem row_empty (w : World) : (w.alloc (.cells #[] 22)).ownsRow w.heap.size 22 1 (.slice (some ⟨w.heap.size, 0, none⟩) 0 0) ([] : List Value).length ([] : List Value) :=
  ⟨rfl, Or.inr ⟨w.heap.size, 0, #[], rfl, Nat.le_refl _, heap_alloc_new w _, Nat.le_refl _, by unfold maxLen; omega, rfl, rfl⟩⟩
theorem row_shape {w : World} {B n : Nat} {E : TypeId} {z : Nat} {v : Value} {xs : List Value} (h : w.ownsRow B E z v n xs) : ∃ a cap, v = .slice a n cap := by
  rcases h.2 with ⟨rfl, h0⟩ | ⟨g, cap, cur, rfl, rest⟩
  · exact ⟨none, 0, by rw [h0]⟩
  · exact ⟨_, cap, rfl⟩
set_option maxRecDepth 100000 in
set_option maxHeartbeats 4000000 in
theorem clOrbit_any (va : Value) (l : List Int) (w : World) (hva : IS w va l) (hs : isSeq l = true) (h15 : l.length ≤ 15) : Calls Try.prog 34 #[va] w (MakesR w (orL l 64)) := by
  have HA := Lib.hid (apply_at l hs)
  have HPR := Lib.hid (fun k v w (h : IS w v (clX k l)) => phRank_any v (clX k l) w h (clX_seq k l hs) (by rw [clX_len]; exact h15))
  have HV := Lib.hid hva
  have HCM := Lib.hid clMoves_any
  have HML := Lib.hid (mvR_len 64)
  have HMA := Lib.hid (mvR_at 64)
  obtain ⟨MR, hMRd⟩ : ∃ M, M = mvR 64 := ⟨_, rfl⟩
  rw [← hMRd] at HML HMA HCM
  have HOL := Lib.hid (orL_len l)
  have HRB := Lib.hid (fun k => show -9223372036854775808 ≤ rk (clX k l) ∧ rk (clX k l) ≤ 9223372036854775807 from by
    have h1 := rank_small (clX k l) (clX_seq k l hs) (by rw [clX_len]; exact h15)
    omega)
  clear hva hs h15 hMRd
  go_enter Try.func34, Try.ntmps34
  go_wp2_with fail
  refine (HCM.out _).mono ?_
  rintro e w3 ⟨rv, rfl, ho, hb⟩
  have B3 := Lib.hid hb
  obtain ⟨g, cap, rfl, hg1, hg2⟩ := ho.shape (by rw [HML.out]; omega)
  obtain ⟨rs, hrow, hrs, -⟩ := ho
  rw [HML.out] at hrow
  have CE := Lib.hid (fun k (hk : k < 64) => show w3.cell? ⟨g, k, none⟩ = some (rs.getD k (.slice none 0 0)) from by
    rw [hrow.cellAt k (by omega)]
    have : k < rs.length := by rw [hrs.len, HML.out]; exact hk
    simp [List.getD, this])
  have RO := Lib.hid (fun k (hk : k < 64) => show Own w3 w.heap.size (rs.getD k (.slice none 0 0)) (mvI k) from by
    have := hrs.own k (by rw [HML.out]; exact hk)
    rwa [HMA.out k hk] at this)
  clear hrow hrs hb hg1 hg2
  rw [HML.out]
  go_wp2_with fail
  go_loopw [13, 3, 4] (fun i o q wr => ∃ (k : Nat) (P : List (Value × List Int)), k ≤ 64 ∧ i = .int .i64 k ∧ Orb wr w3.heap.size P o q (orL l k) ∧ Below w3.heap.size w3 wr) (fun i _ _ _ => 64 - (intOf i).toNat)
  case atStart => exact ⟨0, [], Nat.zero_le _, rfl, ⟨⟨fun p hp => by simp at hp, List.Pairwise.nil⟩, rfl, World.ownsRow_nil _ _ _ _, w3.heap.size, World.ownsRow_nil _ _ _ _, Nat.le_refl _, fun p hp => by simp at hp⟩, Below.refl _ _⟩
  case round =>
    obtain ⟨k, P, hk, rfl, horb, hbel⟩ := hrel
    have ORB := Lib.hid horb
    have HB := Lib.hid hbel
    by_cases hlt : k < 64
    · have c1 := keepc hbel (CE.out k hlt)
      have HU := Lib.hid ((RO.out k hlt).below hbel)
      have HAk := Lib.hid (HA.out k hlt)
      have HPk := Lib.hid (HPR.out k)
      have HRk := HRB.out k
      have HVk := Lib.hid (HV.out.below (joins B3.out hbel))
      obtain ⟨L, hL⟩ : ∃ L, L = orL l k := ⟨_, rfl⟩
      have HL := Lib.hid hL
      rw [← hL] at horb ORB
      obtain ⟨t, ht⟩ : ∃ t, t = clX k l := ⟨_, rfl⟩
      have HT := Lib.hid ht
      rw [← ht] at HAk HPk HRk
      rw [rank_rk] at HPk
      obtain ⟨r, hr⟩ : ∃ r, r = rk t := ⟨_, rfl⟩
      have HR := Lib.hid hr.symm
      rw [← hr] at HPk HRk
      obtain ⟨RK, hRK⟩ : ∃ x, x = L.map rk := ⟨_, rfl⟩
      have HRK := Lib.hid hRK.symm
      obtain ⟨m, hm⟩ : ∃ m, m = L.length := ⟨_, rfl⟩
      have LQ := Lib.hid (show RK.length = m by rw [hRK, List.length_map, hm])
      have LP := Lib.hid (show (P.map (·.1)).length = m by rw [hm, ← horb.is]; simp)
      have LM := Lib.hid hm.symm
      have HM64 := Lib.hid (show m ≤ 64 by have := HOL.out k; rw [← hL, ← hm] at this; omega)
      have HMS := Lib.hid horb.is
      have h0 : (0 : Int) ≤ (k : Int) := by omega
      have h1 : (k : Int) < 64 := by omega
      obtain ⟨hr1, hr2⟩ := HRk
      obtain ⟨ao, co, hoe⟩ : ∃ a c, u3 = .slice a m c := by
        obtain ⟨b, h, -⟩ := horb.outer
        rw [LP.out] at h
        exact row_shape h
      obtain ⟨aq, cq, hqe⟩ : ∃ a c, u4 = .slice a m c := by
        have h := horb.ranks
        rw [HRK.out] at h
        have := row_shape h
        rwa [LQ.out] at this
      subst hoe hqe
      have ONE := Lib.hid (fun (u : Value) (hu : u ∈ P.map (·.1)) => show u.oneCell' = true from by
        obtain ⟨p, hp, rfl⟩ := List.mem_map.1 hu
        exact (horb.rows.own p hp).oneCell)
      have HAPB := Lib.hid (fun p (hp : p ∈ P) k' (h : p.1.ownBlock = some k') => ((horb.rows.own p hp).lt k' h).2)
      obtain ⟨u, hu⟩ : ∃ u, u = rs.getD k (.slice none 0 0) := ⟨_, rfl⟩
      rw [← hu] at c1 HU
      clear horb hbel hL ht hr hRK hm hu
      go_wp2_with fail
      refine (HAk.out _ _ _ HVk.out HU.out.is).mono ?_
      rintro e w5 ⟨s, rfl, ho, hb⟩
      have HBW5 := Lib.hid hb
      have OS5 := Lib.hid ho
      obtain ⟨sa, sc, hse⟩ := ho.is.sl
      obtain ⟨tn, htn⟩ : ∃ n, n = t.length := ⟨_, rfl⟩
      rw [← htn] at hse
      subst hse
      have ORB5 := Lib.hid (ORB.out.below hb)
      clear ho hb c1 htn
      go_wp2_with fail
      refine (HPk.out _ _ OS5.out.is).mono ?_
      rintro e wC ⟨rfl, hb⟩
      have HBW := Lib.hid (show Below w3.heap.size w3 wr from HB.out)
      have HB6 := Lib.hid (joins HB.out (joins HBW5.out hb))
      have OS := Lib.hid (OS5.out.below hb)
      have HAP := Lib.hid (fun p (hp : p ∈ P) => show ApartV (Value.slice sa tn sc, t) p from fun k' h1 h2 => by
        have e1 := (OS5.out.lt k' h1).1
        have e2 := HAPB.out p hp k' h2
        omega)
      have ORC := Lib.hid (show Orb wC w3.heap.size P (.slice ao m co) (.slice aq m cq) L from ORB5.out.below hb)
      clear hb
      have CQ := Lib.hid (fun j (hj : j < m) => show ∃ gq, aq = some ⟨gq, 0, none⟩ ∧ wC.cell? ⟨gq, j, none⟩ = some (.int .i64 (rk (L.getD j []))) from by
        have h := ORC.out.ranks
        have h' := h
        rcases h.2 with ⟨e, h0⟩ | ⟨gq, cap', cur, hv, rest⟩
        · rw [HRK.out, LQ.out] at h0; omega
        · simp only [Value.slice.injEq] at hv
          obtain ⟨rfl, _, rfl⟩ := hv
          refine ⟨gq, rfl, ?_⟩
          have hjl : j < L.length := by rw [LM.out]; exact hj
          have := Own.cell9 h' j (by rw [List.length_map]; exact hjl)
          rw [this]
          simp [List.getD, hjl])
      have hmi : (m : Int) ≤ 64 := by have := HM64.out; omega
      go_wp2_with fail
      go_loopw [9] (fun x wr2 => ∃ j : Nat, j ≤ m ∧ x = .int .i64 j ∧ (∀ i, i < j → rk (L.getD i []) < r) ∧ wr2 = wC) (fun x _ => m - (intOf x).toNat)
      case atStart => exact ⟨0, Nat.zero_le _, rfl, fun i hi => absurd hi (Nat.not_lt_zero _), rfl⟩
      case round =>
        obtain ⟨j, hjm, rfl, hlo, hw9⟩ := hrel
        have hw9 := hw9.symm
        subst hw9
        have HLO := Lib.hid hlo
        clear hlo
        by_cases hjlt : j < m
        · have hj0 : (0 : Int) ≤ (j : Int) := by omega
          have hj1 : (j : Int) < (m : Int) := by omega
          obtain ⟨gq, rfl, c1⟩ := CQ.out j hjlt
          obtain ⟨y, hy⟩ : ∃ y, y = rk (L.getD j []) := ⟨_, rfl⟩
          have HY := Lib.hid hy
          rw [← hy] at c1
          clear hy
          by_cases hyr : y < r
          · have HLN := Lib.hid (show ∀ i, i < j + 1 → rk (L.getD i []) < r from fun i hi => by
              rcases Nat.lt_succ_iff_lt_or_eq.1 hi with h | h
              · exact HLO.out i h
              · rw [h, ← HY.out]; exact hyr)
            go_wp2_with fail
            go_roundw
            case rel => exact ⟨j + 1, by omega, by go_num, HLN.out, trivial⟩
            case measure => simp [intOf]; omega
          · have CNT := Lib.hid (cntK_is r L j (by rw [LM.out]; exact hjm) HLO.out (fun _ => by rw [← HY.out]; exact hyr))
            by_cases hye : y = r
            · have HNX := Lib.hid (show orL l (k + 1) = L from by
                show insK (clX k l) (orL l k) = _
                rw [← HT.out, ← HL.out]
                exact insK_yes t L (by rw [HR.out, CNT.out, LM.out]; exact hjlt) (by rw [HR.out, CNT.out, ← HY.out]; exact hye))
              have hyb : (y == r) = true := by simpa using hye
              go_wp2_with fail
              go_roundw
              case rel => exact ⟨k + 1, P, by omega, by go_num, by rw [HNX.out]; exact ORC.out, HB6.out⟩
              case measure => simp [intOf]; omega
            · have NEQ := Lib.hid (show j < L.length → rk (L.getD j []) ≠ r from fun _ => by rw [← HY.out]; exact hye)
              have hyb : (y == r) = false := by simpa using hye
              have hcl : cntK r L = j := CNT.out
              have hNX : orL l (k + 1) = L.take j ++ t :: L.drop j := by
                show insK (clX k l) (orL l k) = _
                rw [← HT.out, ← HL.out, insK_no t L (by rw [HR.out, hcl]; exact NEQ.out), HR.out, hcl]
              have HNX := Lib.hid hNX
              obtain ⟨hjcq, hi1, hi2⟩ := cut_is (show Own wC w3.heap.size (.slice (some ⟨gq, 0, none⟩) m cq) RK from by have := ORC.out.ranks; rwa [HRK.out] at this) LQ.out.symm j (by omega)
              rw [cutA_zero] at hi1
              obtain ⟨bo, hbo, hbB, hbP⟩ := ORC.out.outer
              rw [LP.out] at hbo
              obtain ⟨go, rfl⟩ : ∃ go, ao = some ⟨go, 0, none⟩ := by
                rcases hbo.2 with ⟨_, h0⟩ | ⟨g', cap', cur, hv, rest⟩
                · omega
                · simp only [Value.slice.injEq] at hv
                  exact ⟨g', hv.1⟩
              obtain ⟨hjco, ho1, ho2⟩ := cut_cells hbo j (by omega)
              rw [cutA_zero] at ho1
              have HTI := Lib.hid hi1
              have HO1 := Lib.hid ho1
              have HJC := Lib.hid (show j ≤ cq by omega)
              have hjco1 : j ≤ co := by omega
              have hnq : ¬ cq = j := by omega
              have hno : ¬ co = j := by omega
              have HNQ := Lib.hid hnq
              rw [show cutA (some ⟨gq, 0, none⟩) cq j = some ⟨gq, j, none⟩ from by unfold cutA; simp [hnq, Addr.add_lit]] at hi2
              rw [show cutA (some ⟨go, 0, none⟩) co j = some ⟨go, j, none⟩ from by unfold cutA; simp [hno, Addr.add_lit]] at ho2
              have HDJ := Lib.hid hi2
              have HO2 := Lib.hid ho2
              clear hnq
              have HOW := Lib.hid (fun v w (h : IS w v (RK.take j)) => l1Own_any v (RK.take j) w h (by rw [List.length_take, LQ.out]; have := HM64.out; omega))
              have HTJ := Lib.hid (show (RK.take j).length ≤ 1048576 by rw [List.length_take, LQ.out]; have := HM64.out; omega)
              have HT6 := Lib.hid (show (RK.take j ++ [r]).length ≤ 1048576 by rw [List.length_append, List.length_take, LQ.out]; have := HM64.out; simp; omega)
              have HT7 := Lib.hid (show (RK.drop j).length ≤ 1048576 by rw [List.length_drop, LQ.out]; have := HM64.out; omega)
              have h0j : (0 : Int) ≤ (j : Int) := by omega
              have h64j : (j : Int) ≤ 64 := by have := HM64.out; omega
              have hjmi : (j : Int) ≤ (m : Int) := by omega
              have hjc : (j : Int) ≤ (co : Int) := by omega
              clear hcl hNX hjcq hi1 hi2 hbo hbB hbP ho1 ho2 hjco
              go_wp2_with fail
              refine wp_region_held_drew (S := (fun w' => World.grownBy wC w' none)) (by kernel_rfl) (grownDrew (World.grownBy.refl _ _)) ?_
              obtain ⟨d1, hdw⟩ : ∃ w', w' = wC.drew := ⟨_, rfl⟩
              rw [← hdw]
              have hb : Below wC.heap.size wC d1 := by rw [hdw]; exact belowN (Below.refl _ _) 1
              clear hdw hb
              intro hHeld
              refine' wpAnyH_take (i := 0) (v := _) rfl (by kernel_rfl) (by kernel_rfl) (by kernel_rfl) (fun _ _ _ h => h) (Or.inl ⟨by rfl, ?hy10001⟩) (by assumption) ?rest10001
              case hy10001 =>
                intro w h
                (try clear h)
                go_simp
                (try with_reducible rfl)
              (try simp only [Act.put, List.getElem_toArray, List.getElem_cons_zero, List.setIfInBounds_toArray, List.set_cons_zero, List.set_cons_succ])
              refine' wpAnyH_take (i := 1) (v := _) rfl (by kernel_rfl) (by kernel_rfl) (by kernel_rfl) (fun _ _ _ h => h) (Or.inl ⟨by rfl, ?hy10002⟩) (by assumption) ?rest10002
              case hy10002 =>
                intro w h
                (try clear h)
                go_simp
                (try with_reducible rfl)
              (try simp only [Act.put, List.getElem_toArray, List.getElem_cons_zero, List.getElem_cons_succ, List.setIfInBounds_toArray, List.set_cons_zero, List.set_cons_succ])
              refine' wpAnyH_take (i := 2) (v := _) rfl (by kernel_rfl) (by kernel_rfl) (by kernel_rfl) (fun _ _ _ h => h) (Or.inl ⟨by rfl, ?hy10003⟩) (by assumption) ?rest10003
              case hy10003 =>
                intro w h
                have hs_ := HJC.out
                (try clear h)
                go_simp
                (try with_reducible rfl)
              (try simp only [Act.put, List.getElem_toArray, List.getElem_cons_zero, List.getElem_cons_succ, List.setIfInBounds_toArray, List.set_cons_zero, List.set_cons_succ])
              refine' wpAnyH_take (i := 4) (v := _) rfl (by kernel_rfl) (by kernel_rfl) (by kernel_rfl) (fun _ _ _ h => h) (Or.inl ⟨by rfl, ?hy10004⟩) (by assumption) ?rest10004
              case hy10004 =>
                intro w h
                (try clear h)
                go_simp
                (try with_reducible rfl)
              (try simp only [Act.put, List.getElem_toArray, List.getElem_cons_zero, List.getElem_cons_succ, List.setIfInBounds_toArray, List.set_cons_zero, List.set_cons_succ])
              refine' wpAnyH_take (i := 7) (v := _) rfl (by kernel_rfl) (by kernel_rfl) (by kernel_rfl) (fun _ _ _ h => h) (Or.inl ⟨by rfl, ?hy10005⟩) (by assumption) ?rest10005
              case hy10005 =>
                intro w h
                (try clear h)
                go_simp
                (try with_reducible rfl)
              (try simp only [Act.put, List.getElem_toArray, List.getElem_cons_zero, List.getElem_cons_succ, List.setIfInBounds_toArray, List.set_cons_zero, List.set_cons_succ])
              refine' wpAnyH_take (i := 8) (v := _) rfl (by kernel_rfl) (by kernel_rfl) (by kernel_rfl) (fun _ _ _ h => h) (Or.inl ⟨by rfl, ?hy10006⟩) (by assumption) ?rest10006
              case hy10006 =>
                intro w h
                (try clear h)
                go_simp
                (try with_reducible rfl)
              (try simp only [Act.put, List.getElem_toArray, List.getElem_cons_zero, List.getElem_cons_succ, List.setIfInBounds_toArray, List.set_cons_zero, List.set_cons_succ])
              refine' wpAnyH_take (i := 9) (v := _) rfl (by kernel_rfl) (by kernel_rfl) (by kernel_rfl) (fun _ _ _ h => h) (Or.inl ⟨by rfl, ?hy10007⟩) (by assumption) ?rest10007
              case hy10007 =>
                intro w h
                have hs_ := HJC.out
                have hn_ := HNQ.out
                (try clear h)
                go_simp
                (try with_reducible rfl)
              (try simp only [Act.put, List.getElem_toArray, List.getElem_cons_zero, List.getElem_cons_succ, List.setIfInBounds_toArray, List.set_cons_zero, List.set_cons_succ])
              refine wpAnyH_ready (rs := [3, 5]) (by kernel_rfl) (by simp) ?_
              refine AllReadyH.cons rfl (fun K hK => ?_) (AllReadyH.cons rfl (fun K hK => ?_) AllReadyH.nil)
              · have LW_ := Lib.hid hHeld.size
                go_simp
                refine (HOW.out _ _ (HTI.out.below (heldBelow hHeld))).mono ?_
                rintro e d2 ⟨t5, rfl, ho, hb⟩
                have F2_O := Lib.hid ho
                have hHeld := grownB hHeld hb
                clear ho hb
                refine hK.out _ _ hHeld (fun hHeld => ?_)
                clear hK K
                (try simp only [Act.put, List.getElem_toArray, List.getElem_cons_zero, List.getElem_cons_succ, List.setIfInBounds_toArray, List.set_cons_zero, List.set_cons_succ])
                refine wpAnyH_ready (rs := [5]) (by kernel_rfl) (by simp) ?_
                refine AllReadyH.cons rfl (fun K hK => ?_) AllReadyH.nil
                go_simp
                obtain ⟨d3, hdw⟩ : ∃ w', w' = d2.alloc (.cells #[.int .i64 r] 3) := ⟨_, rfl⟩
                rw [← hdw]
                have hb : Below d2.heap.size d2 d3 := by rw [hdw]; exact belowa (Below.refl _ _) _
                have F3_O := Lib.hid (F2_O.out.below hb)
                have F3_CC := Lib.hid (show d3.cell? ⟨d2.heap.size, 0, none⟩ = some (.int .i64 r) from by rw [hdw]; exact cell9_one _ _ _)
                have hHeld := grownB hHeld hb
                clear hdw hb
                refine hK.out _ _ hHeld (fun hHeld => ?_)
                clear hK K
                (try simp only [Act.put, List.getElem_toArray, List.getElem_cons_zero, List.getElem_cons_succ, List.setIfInBounds_toArray, List.set_cons_zero, List.set_cons_succ])
                refine wpAnyH_ready (rs := [6]) (by kernel_rfl) (by simp) ?_
                refine AllReadyH.cons rfl (fun K hK => ?_) AllReadyH.nil
                have hbw := hHeld.size
                refine step_push rfl (.tmp 51) (.tmp 53) rfl wC.heap.size _ (RK.take j) rfl (F3_O.out.mono LW_.out) d2.heap.size 1 r rfl F3_CC.out HTJ.out wC.heap.size wC (heldBelow hHeld) (Nat.le_refl _) hHeld.size hHeld.size ?_
                intro v6 w6 ho6 hb6 hg6
                have O6_ := Lib.hid ho6
                have hHeld := grown_in hHeld hg6 (fun k hk => ((F3_O.out.mono LW_.out).lt k hk).1)
                clear ho6 hb6 hg6 hbw
                refine hK.out _ _ hHeld (fun hHeld => ?_)
                clear hK K
                (try simp only [Act.put, List.getElem_toArray, List.getElem_cons_zero, List.getElem_cons_succ, List.setIfInBounds_toArray, List.set_cons_zero, List.set_cons_succ])
                refine wpAnyH_ready (rs := [10]) (by kernel_rfl) (by simp) ?_
                refine AllReadyH.cons rfl (fun K hK => ?_) AllReadyH.nil
                refine step_joinI rfl (.tmp 54) (.tmp 57) rfl wC.heap.size _ _ rfl O6_.out _ (RK.drop j) rfl (HDJ.out.below (heldBelow hHeld)) HT6.out HT7.out hHeld.size ?_
                intro v7 w7 ho7 hg7
                have O7_ := Lib.hid ho7
                have hHeld := grown_in hHeld hg7 (fun k hk => (O6_.out.lt k hk).1)
                clear ho7 hg7
                refine hK.out _ _ hHeld (fun hHeld => ?_)
                clear hK K
                (try simp only [Act.put, List.getElem_toArray, List.getElem_cons_zero, List.getElem_cons_succ, List.setIfInBounds_toArray, List.set_cons_zero, List.set_cons_succ])
                refine' wpAnyH_take (i := 11) (v := _) rfl (by kernel_rfl) (by kernel_rfl) (by kernel_rfl) (fun _ _ _ h => h) (Or.inl ⟨by rfl, ?hy10008⟩) (by assumption) ?rest10008
                case hy10008 =>
                  intro w h
                  (try clear h)
                  go_simp
                  (try with_reducible rfl)
                (try simp only [Act.put, List.getElem_toArray, List.getElem_cons_zero, List.getElem_cons_succ, List.setIfInBounds_toArray, List.set_cons_zero, List.set_cons_succ])
                refine wpAnyH_done (by kernel_rfl) ?_ _
                have HELD := Lib.hid (heldBelow hHeld)
                obtain ⟨wE, hwE⟩ : ∃ w', w' = w7 := ⟨_, rfl⟩
                rw [← hwE] at HELD
                have OE := Lib.hid (show Own wE wC.heap.size v7 (RK.take j ++ [r] ++ RK.drop j) from by rw [hwE]; exact O7_.out)
                have SE := Lib.hid (OS.out.below HELD.out)
                rw [← hwE]
                clear hwE hHeld
                have HEB := Lib.hid (Below.refl wE.heap.size wE)
                go_wp2_with (first
                  | ((with_reducible refine at_op (d := some 63) _ ?_); refine wpList_joinV rfl _ _ rfl wE.heap.size _ [] rfl (row_empty wE) _ _ ((P.map (·.1)).take j) _ rfl (by rw [List.length_take, LP.out]; omega) (fun h => by obtain ⟨A, e, h2⟩ := HO1.out h; exact ⟨A, e, fun i u hi => keepc (belowa HELD.out _) (h2 i u hi)⟩) (fun u hu => ONE.out u (List.mem_of_mem_take hu)) (by simp) (by rw [List.length_take, LP.out]; have := HM64.out; omega) wE.heap.size wE (belowa HEB.out _) (Nat.le_refl _) (by simp) (by simp) ?_; intro v13 w13 ho13 hb13; have O13 := Lib.hid ho13; have B13 := Lib.hid hb13; clear ho13 hb13)
                  | ((with_reducible refine at_op (d := some 67) _ ?_); refine wpList_joinV rfl _ _ rfl wE.heap.size _ ([] ++ (P.map (·.1)).take j) rfl (O13.out.alloc _) (some ⟨w13.heap.size, 0, none⟩) 1 [Value.slice sa tn sc] 1 rfl rfl (fun _ => ⟨_, rfl, fun i u hi => by have := cell9_one w13 (.slice sa tn sc) 22; cases i with | zero => (simp at hi; subst hi; rw [Addr.add_lit]; exact this) | succ i => (simp at hi)⟩) (fun u hu => by simp at hu; subst hu; rfl) (by simp; have := HM64.out; omega) (by simp) wE.heap.size wE (belowa B13.out _) (Nat.le_refl _) (by have := B13.out.size; simp; omega) (by have := B13.out.size; simp; omega) ?_; intro v14 w14 ho14 hb14; have O14 := Lib.hid ho14; have B14 := Lib.hid hb14; clear ho14 hb14)
                  | ((with_reducible refine at_op (d := some 72) _ ?_); refine wpList_joinV rfl _ _ rfl wE.heap.size _ ([] ++ (P.map (·.1)).take j ++ [Value.slice sa tn sc]) rfl O14.out _ _ ((P.map (·.1)).drop j) _ rfl (by rw [List.length_drop, LP.out]) (fun h => by obtain ⟨A, e, h2⟩ := HO2.out h; exact ⟨A, e, fun i u hi => keepc (joins HELD.out B14.out) (h2 i u hi)⟩) (fun u hu => ONE.out u (List.mem_of_mem_drop hu)) (by simp; have := HM64.out; omega) (by rw [List.length_drop, LP.out]; have := HM64.out; omega) wE.heap.size wE B14.out (Nat.le_refl _) B14.out.size B14.out.size ?_; intro v15 w15 ho15 hb15; have O15 := Lib.hid ho15; have B15 := Lib.hid hb15; clear ho15 hb15))
                go_roundw
                case rel =>
                  refine ⟨k + 1, P.take j ++ (.slice sa tn sc, t) :: P.drop j, by omega, by go_num, ?_, joins HB6.out (joins HELD.out B15.out)⟩
                  rw [HNX.out]
                  refine ⟨(ORC.out.rows.below (joins HELD.out B15.out)).put j ((SE.out.below B15.out).mono HBW.out.size) HAP.out, by rw [← HMS.out]; simp, ?_, wE.heap.size, ?_, by have := HB6.out.size; have := HELD.out.size; omega, fun p hp k' hk' => ?_⟩
                  · have := OE.out.below B15.out
                    have e : (L.take j ++ t :: L.drop j).map rk = RK.take j ++ [r] ++ RK.drop j := by rw [List.map_append, List.map_cons, List.map_take, List.map_drop, HRK.out, HR.out]; simp
                    rw [e]
                    exact this.mono HB6.out.size
                  · have := O15.out
                    have e : ((P.take j ++ (Value.slice sa tn sc, t) :: P.drop j).map (·.1)) = [] ++ (P.map (·.1)).take j ++ [.slice sa tn sc] ++ (P.map (·.1)).drop j := by simp
                    rw [e]; exact this
                  · rcases List.mem_append.1 hp with h1 | h1
                    · have := ((ORC.out.rows.own p (List.mem_of_mem_take h1)).lt k' hk').2; have := HELD.out.size; omega
                    · rcases List.mem_cons.1 h1 with rfl | h1
                      · have := (SE.out.lt k' hk').2; exact this
                      · have := ((ORC.out.rows.own p (List.mem_of_mem_drop h1)).lt k' hk').2; have := HELD.out.size; omega
                case measure => simp [intOf]; omega
              · go_simp
                obtain ⟨d2, hdw⟩ : ∃ w', w' = d1.alloc (.cells #[.int .i64 r] 3) := ⟨_, rfl⟩
                rw [← hdw]
                have hb : Below d1.heap.size d1 d2 := by rw [hdw]; exact belowa (Below.refl _ _) _
                have F2_CC := Lib.hid (show d2.cell? ⟨d1.heap.size, 0, none⟩ = some (.int .i64 r) from by rw [hdw]; exact cell9_one _ _ _)
                have hHeld := grownB hHeld hb
                clear hdw hb
                refine hK.out _ _ hHeld (fun hHeld => ?_)
                clear hK K
                (try simp only [Act.put, List.getElem_toArray, List.getElem_cons_zero, List.getElem_cons_succ, List.setIfInBounds_toArray, List.set_cons_zero, List.set_cons_succ])
                refine wpAnyH_ready (rs := [3]) (by kernel_rfl) (by simp) ?_
                refine AllReadyH.cons rfl (fun K hK => ?_) AllReadyH.nil
                have LW_ := Lib.hid hHeld.size
                go_simp
                refine (HOW.out _ _ (HTI.out.below (heldBelow hHeld))).mono ?_
                rintro e d3 ⟨t5, rfl, ho, hb⟩
                have F3_CC := Lib.hid (keepc hb F2_CC.out)
                have F3_O := Lib.hid ho
                have hHeld := grownB hHeld hb
                clear ho hb
                refine hK.out _ _ hHeld (fun hHeld => ?_)
                clear hK K
                (try simp only [Act.put, List.getElem_toArray, List.getElem_cons_zero, List.getElem_cons_succ, List.setIfInBounds_toArray, List.set_cons_zero, List.set_cons_succ])
                refine wpAnyH_ready (rs := [6]) (by kernel_rfl) (by simp) ?_
                refine AllReadyH.cons rfl (fun K hK => ?_) AllReadyH.nil
                have hbw := hHeld.size
                refine step_push rfl (.tmp 51) (.tmp 53) rfl wC.heap.size _ (RK.take j) rfl (F3_O.out.mono LW_.out) d1.heap.size 1 r rfl F3_CC.out HTJ.out wC.heap.size wC (heldBelow hHeld) (Nat.le_refl _) hHeld.size hHeld.size ?_
                intro v6 w6 ho6 hb6 hg6
                have O6_ := Lib.hid ho6
                have hHeld := grown_in hHeld hg6 (fun k hk => ((F3_O.out.mono LW_.out).lt k hk).1)
                clear ho6 hb6 hg6 hbw
                refine hK.out _ _ hHeld (fun hHeld => ?_)
                clear hK K
                (try simp only [Act.put, List.getElem_toArray, List.getElem_cons_zero, List.getElem_cons_succ, List.setIfInBounds_toArray, List.set_cons_zero, List.set_cons_succ])
                refine wpAnyH_ready (rs := [10]) (by kernel_rfl) (by simp) ?_
                refine AllReadyH.cons rfl (fun K hK => ?_) AllReadyH.nil
                refine step_joinI rfl (.tmp 54) (.tmp 57) rfl wC.heap.size _ _ rfl O6_.out _ (RK.drop j) rfl (HDJ.out.below (heldBelow hHeld)) HT6.out HT7.out hHeld.size ?_
                intro v7 w7 ho7 hg7
                have O7_ := Lib.hid ho7
                have hHeld := grown_in hHeld hg7 (fun k hk => (O6_.out.lt k hk).1)
                clear ho7 hg7
                refine hK.out _ _ hHeld (fun hHeld => ?_)
                clear hK K
                (try simp only [Act.put, List.getElem_toArray, List.getElem_cons_zero, List.getElem_cons_succ, List.setIfInBounds_toArray, List.set_cons_zero, List.set_cons_succ])
                refine' wpAnyH_take (i := 11) (v := _) rfl (by kernel_rfl) (by kernel_rfl) (by kernel_rfl) (fun _ _ _ h => h) (Or.inl ⟨by rfl, ?hy10109⟩) (by assumption) ?rest10109
                case hy10109 =>
                  intro w h
                  (try clear h)
                  go_simp
                  (try with_reducible rfl)
                (try simp only [Act.put, List.getElem_toArray, List.getElem_cons_zero, List.getElem_cons_succ, List.setIfInBounds_toArray, List.set_cons_zero, List.set_cons_succ])
                refine wpAnyH_done (by kernel_rfl) ?_ _
                have HELD := Lib.hid (heldBelow hHeld)
                obtain ⟨wE, hwE⟩ : ∃ w', w' = w7 := ⟨_, rfl⟩
                rw [← hwE] at HELD
                have OE := Lib.hid (show Own wE wC.heap.size v7 (RK.take j ++ [r] ++ RK.drop j) from by rw [hwE]; exact O7_.out)
                have SE := Lib.hid (OS.out.below HELD.out)
                rw [← hwE]
                clear hwE hHeld
                have HEB := Lib.hid (Below.refl wE.heap.size wE)
                go_wp2_with (first
                  | ((with_reducible refine at_op (d := some 63) _ ?_); refine wpList_joinV rfl _ _ rfl wE.heap.size _ [] rfl (row_empty wE) _ _ ((P.map (·.1)).take j) _ rfl (by rw [List.length_take, LP.out]; omega) (fun h => by obtain ⟨A, e, h2⟩ := HO1.out h; exact ⟨A, e, fun i u hi => keepc (belowa HELD.out _) (h2 i u hi)⟩) (fun u hu => ONE.out u (List.mem_of_mem_take hu)) (by simp) (by rw [List.length_take, LP.out]; have := HM64.out; omega) wE.heap.size wE (belowa HEB.out _) (Nat.le_refl _) (by simp) (by simp) ?_; intro v13 w13 ho13 hb13; have O13 := Lib.hid ho13; have B13 := Lib.hid hb13; clear ho13 hb13)
                  | ((with_reducible refine at_op (d := some 67) _ ?_); refine wpList_joinV rfl _ _ rfl wE.heap.size _ ([] ++ (P.map (·.1)).take j) rfl (O13.out.alloc _) (some ⟨w13.heap.size, 0, none⟩) 1 [Value.slice sa tn sc] 1 rfl rfl (fun _ => ⟨_, rfl, fun i u hi => by have := cell9_one w13 (.slice sa tn sc) 22; cases i with | zero => (simp at hi; subst hi; rw [Addr.add_lit]; exact this) | succ i => (simp at hi)⟩) (fun u hu => by simp at hu; subst hu; rfl) (by simp; have := HM64.out; omega) (by simp) wE.heap.size wE (belowa B13.out _) (Nat.le_refl _) (by have := B13.out.size; simp; omega) (by have := B13.out.size; simp; omega) ?_; intro v14 w14 ho14 hb14; have O14 := Lib.hid ho14; have B14 := Lib.hid hb14; clear ho14 hb14)
                  | ((with_reducible refine at_op (d := some 72) _ ?_); refine wpList_joinV rfl _ _ rfl wE.heap.size _ ([] ++ (P.map (·.1)).take j ++ [Value.slice sa tn sc]) rfl O14.out _ _ ((P.map (·.1)).drop j) _ rfl (by rw [List.length_drop, LP.out]) (fun h => by obtain ⟨A, e, h2⟩ := HO2.out h; exact ⟨A, e, fun i u hi => keepc (joins HELD.out B14.out) (h2 i u hi)⟩) (fun u hu => ONE.out u (List.mem_of_mem_drop hu)) (by simp; have := HM64.out; omega) (by rw [List.length_drop, LP.out]; have := HM64.out; omega) wE.heap.size wE B14.out (Nat.le_refl _) B14.out.size B14.out.size ?_; intro v15 w15 ho15 hb15; have O15 := Lib.hid ho15; have B15 := Lib.hid hb15; clear ho15 hb15))
                go_roundw
                case rel =>
                  refine ⟨k + 1, P.take j ++ (.slice sa tn sc, t) :: P.drop j, by omega, by go_num, ?_, joins HB6.out (joins HELD.out B15.out)⟩
                  rw [HNX.out]
                  refine ⟨(ORC.out.rows.below (joins HELD.out B15.out)).put j ((SE.out.below B15.out).mono HBW.out.size) HAP.out, by rw [← HMS.out]; simp, ?_, wE.heap.size, ?_, by have := HB6.out.size; have := HELD.out.size; omega, fun p hp k' hk' => ?_⟩
                  · have := OE.out.below B15.out
                    have e : (L.take j ++ t :: L.drop j).map rk = RK.take j ++ [r] ++ RK.drop j := by rw [List.map_append, List.map_cons, List.map_take, List.map_drop, HRK.out, HR.out]; simp
                    rw [e]
                    exact this.mono HB6.out.size
                  · have := O15.out
                    have e : ((P.take j ++ (Value.slice sa tn sc, t) :: P.drop j).map (·.1)) = [] ++ (P.map (·.1)).take j ++ [.slice sa tn sc] ++ (P.map (·.1)).drop j := by simp
                    rw [e]; exact this
                  · rcases List.mem_append.1 hp with h1 | h1
                    · have := ((ORC.out.rows.own p (List.mem_of_mem_take h1)).lt k' hk').2; have := HELD.out.size; omega
                    · rcases List.mem_cons.1 h1 with rfl | h1
                      · have := (SE.out.lt k' hk').2; exact this
                      · have := ((ORC.out.rows.own p (List.mem_of_mem_drop h1)).lt k' hk').2; have := HELD.out.size; omega
                case measure => simp [intOf]; omega
        · have hje : j = m := by omega
          have CNT := Lib.hid (cntK_is r L j (by rw [LM.out]; exact hjm) HLO.out (fun h => by rw [LM.out] at h; omega))
          have NEQ := Lib.hid (show j < L.length → rk (L.getD j []) ≠ r from fun h => by rw [LM.out] at h; omega)
          subst hje
          have hcl : cntK r L = j := CNT.out
          have hNX : orL l (k + 1) = L.take j ++ t :: L.drop j := by
            show insK (clX k l) (orL l k) = _
            rw [← HT.out, ← HL.out, insK_no t L (by rw [HR.out, hcl]; exact NEQ.out), HR.out, hcl]
          have HNX := Lib.hid hNX
          obtain ⟨hjcq, hi1, hi2⟩ := cut_is (show Own wC w3.heap.size (.slice aq j cq) RK from by have := ORC.out.ranks; rwa [HRK.out] at this) LQ.out.symm j (by omega)
          rw [cutA_zero] at hi1
          obtain ⟨bo, hbo, hbB, hbP⟩ := ORC.out.outer
          rw [LP.out] at hbo
          obtain ⟨hjco, ho1, ho2⟩ := cut_cells hbo j (by omega)
          rw [cutA_zero] at ho1
          have HTI := Lib.hid hi1
          have HO1 := Lib.hid ho1
          have HJC := Lib.hid (show j ≤ cq by omega)
          have hjco1 : j ≤ co := by omega
          have HDJ0 := Lib.hid (show RK.drop j = [] from List.drop_eq_nil_of_le (by rw [LQ.out]; exact Nat.le_refl _))
          have HO20 := Lib.hid (show (P.map (·.1)).drop j = [] from List.drop_eq_nil_of_le (by rw [LP.out]; exact Nat.le_refl _))
          have HOW := Lib.hid (fun v w (h : IS w v (RK.take j)) => l1Own_any v (RK.take j) w h (by rw [List.length_take, LQ.out]; have := HM64.out; omega))
          have HTJ := Lib.hid (show (RK.take j).length ≤ 1048576 by rw [List.length_take, LQ.out]; have := HM64.out; omega)
          have HT6 := Lib.hid (show (RK.take j ++ [r]).length ≤ 1048576 by rw [List.length_append, List.length_take, LQ.out]; have := HM64.out; simp; omega)
          have HT7 := Lib.hid (show (RK.drop j).length ≤ 1048576 by rw [List.length_drop, LQ.out]; have := HM64.out; omega)
          have h0j : (0 : Int) ≤ (j : Int) := by omega
          have h64j : (j : Int) ≤ 64 := by have := HM64.out; omega
          have hjmi : (j : Int) ≤ (j : Int) := by omega
          have hjc : (j : Int) ≤ (co : Int) := by omega
          clear hcl hNX hjcq hi1 hi2 hbo hbB hbP ho1 ho2 hjco
          go_wp2_with fail
          refine wp_region_held_drew (S := (fun w' => World.grownBy wC w' none)) (by kernel_rfl) (grownDrew (World.grownBy.refl _ _)) ?_
          obtain ⟨d1, hdw⟩ : ∃ w', w' = wC.drew := ⟨_, rfl⟩
          rw [← hdw]
          have hb : Below wC.heap.size wC d1 := by rw [hdw]; exact belowN (Below.refl _ _) 1
          clear hdw hb
          intro hHeld
          refine' wpAnyH_take (i := 0) (v := _) rfl (by kernel_rfl) (by kernel_rfl) (by kernel_rfl) (fun _ _ _ h => h) (Or.inl ⟨by rfl, ?hy20001⟩) (by assumption) ?rest20001
          case hy20001 =>
            intro w h
            (try clear h)
            go_simp
            (try with_reducible rfl)
          (try simp only [Act.put, List.getElem_toArray, List.getElem_cons_zero, List.setIfInBounds_toArray, List.set_cons_zero, List.set_cons_succ])
          refine' wpAnyH_take (i := 1) (v := _) rfl (by kernel_rfl) (by kernel_rfl) (by kernel_rfl) (fun _ _ _ h => h) (Or.inl ⟨by rfl, ?hy20002⟩) (by assumption) ?rest20002
          case hy20002 =>
            intro w h
            (try clear h)
            go_simp
            (try with_reducible rfl)
          (try simp only [Act.put, List.getElem_toArray, List.getElem_cons_zero, List.getElem_cons_succ, List.setIfInBounds_toArray, List.set_cons_zero, List.set_cons_succ])
          refine' wpAnyH_take (i := 2) (v := _) rfl (by kernel_rfl) (by kernel_rfl) (by kernel_rfl) (fun _ _ _ h => h) (Or.inl ⟨by rfl, ?hy20003⟩) (by assumption) ?rest20003
          case hy20003 =>
            intro w h
            have hs_ := HJC.out
            (try clear h)
            go_simp
            (try with_reducible rfl)
          (try simp only [Act.put, List.getElem_toArray, List.getElem_cons_zero, List.getElem_cons_succ, List.setIfInBounds_toArray, List.set_cons_zero, List.set_cons_succ])
          refine' wpAnyH_take (i := 4) (v := _) rfl (by kernel_rfl) (by kernel_rfl) (by kernel_rfl) (fun _ _ _ h => h) (Or.inl ⟨by rfl, ?hy20004⟩) (by assumption) ?rest20004
          case hy20004 =>
            intro w h
            (try clear h)
            go_simp
            (try with_reducible rfl)
          (try simp only [Act.put, List.getElem_toArray, List.getElem_cons_zero, List.getElem_cons_succ, List.setIfInBounds_toArray, List.set_cons_zero, List.set_cons_succ])
          refine' wpAnyH_take (i := 7) (v := _) rfl (by kernel_rfl) (by kernel_rfl) (by kernel_rfl) (fun _ _ _ h => h) (Or.inl ⟨by rfl, ?hy20005⟩) (by assumption) ?rest20005
          case hy20005 =>
            intro w h
            (try clear h)
            go_simp
            (try with_reducible rfl)
          (try simp only [Act.put, List.getElem_toArray, List.getElem_cons_zero, List.getElem_cons_succ, List.setIfInBounds_toArray, List.set_cons_zero, List.set_cons_succ])
          refine' wpAnyH_take (i := 8) (v := _) rfl (by kernel_rfl) (by kernel_rfl) (by kernel_rfl) (fun _ _ _ h => h) (Or.inl ⟨by rfl, ?hy20006⟩) (by assumption) ?rest20006
          case hy20006 =>
            intro w h
            (try clear h)
            go_simp
            (try with_reducible rfl)
          (try simp only [Act.put, List.getElem_toArray, List.getElem_cons_zero, List.getElem_cons_succ, List.setIfInBounds_toArray, List.set_cons_zero, List.set_cons_succ])
          refine' wpAnyH_take (i := 9) (v := _) rfl (by kernel_rfl) (by kernel_rfl) (by kernel_rfl) (fun _ _ _ h => h) (Or.inl ⟨by rfl, ?hy20007⟩) (by assumption) ?rest20007
          case hy20007 =>
            intro w h
            have hs_ := HJC.out
            (try clear h)
            go_simp
            (try with_reducible rfl)
          (try simp only [Act.put, List.getElem_toArray, List.getElem_cons_zero, List.getElem_cons_succ, List.setIfInBounds_toArray, List.set_cons_zero, List.set_cons_succ])
          refine wpAnyH_ready (rs := [3, 5]) (by kernel_rfl) (by simp) ?_
          refine AllReadyH.cons rfl (fun K hK => ?_) (AllReadyH.cons rfl (fun K hK => ?_) AllReadyH.nil)
          · have LW_ := Lib.hid hHeld.size
            go_simp
            refine (HOW.out _ _ (HTI.out.below (heldBelow hHeld))).mono ?_
            rintro e d2 ⟨t5, rfl, ho, hb⟩
            have F2_O := Lib.hid ho
            have hHeld := grownB hHeld hb
            clear ho hb
            refine hK.out _ _ hHeld (fun hHeld => ?_)
            clear hK K
            (try simp only [Act.put, List.getElem_toArray, List.getElem_cons_zero, List.getElem_cons_succ, List.setIfInBounds_toArray, List.set_cons_zero, List.set_cons_succ])
            refine wpAnyH_ready (rs := [5]) (by kernel_rfl) (by simp) ?_
            refine AllReadyH.cons rfl (fun K hK => ?_) AllReadyH.nil
            go_simp
            obtain ⟨d3, hdw⟩ : ∃ w', w' = d2.alloc (.cells #[.int .i64 r] 3) := ⟨_, rfl⟩
            rw [← hdw]
            have hb : Below d2.heap.size d2 d3 := by rw [hdw]; exact belowa (Below.refl _ _) _
            have F3_O := Lib.hid (F2_O.out.below hb)
            have F3_CC := Lib.hid (show d3.cell? ⟨d2.heap.size, 0, none⟩ = some (.int .i64 r) from by rw [hdw]; exact cell9_one _ _ _)
            have hHeld := grownB hHeld hb
            clear hdw hb
            refine hK.out _ _ hHeld (fun hHeld => ?_)
            clear hK K
            (try simp only [Act.put, List.getElem_toArray, List.getElem_cons_zero, List.getElem_cons_succ, List.setIfInBounds_toArray, List.set_cons_zero, List.set_cons_succ])
            refine wpAnyH_ready (rs := [6]) (by kernel_rfl) (by simp) ?_
            refine AllReadyH.cons rfl (fun K hK => ?_) AllReadyH.nil
            have hbw := hHeld.size
            refine step_push rfl (.tmp 51) (.tmp 53) rfl wC.heap.size _ (RK.take j) rfl (F3_O.out.mono LW_.out) d2.heap.size 1 r rfl F3_CC.out HTJ.out wC.heap.size wC (heldBelow hHeld) (Nat.le_refl _) hHeld.size hHeld.size ?_
            intro v6 w6 ho6 hb6 hg6
            have O6_ := Lib.hid ho6
            have hHeld := grown_in hHeld hg6 (fun k hk => ((F3_O.out.mono LW_.out).lt k hk).1)
            clear ho6 hb6 hg6 hbw
            refine hK.out _ _ hHeld (fun hHeld => ?_)
            clear hK K
            (try simp only [Act.put, List.getElem_toArray, List.getElem_cons_zero, List.getElem_cons_succ, List.setIfInBounds_toArray, List.set_cons_zero, List.set_cons_succ])
            refine wpAnyH_ready (rs := [10]) (by kernel_rfl) (by simp) ?_
            refine AllReadyH.cons rfl (fun K hK => ?_) AllReadyH.nil
            refine step_joinI rfl (.tmp 54) (.tmp 57) rfl wC.heap.size _ _ rfl O6_.out _ (RK.drop j) rfl (Or.inl ⟨HDJ0.out, _, _, rfl⟩) HT6.out HT7.out hHeld.size ?_
            intro v7 w7 ho7 hg7
            have O7_ := Lib.hid ho7
            have hHeld := grown_in hHeld hg7 (fun k hk => (O6_.out.lt k hk).1)
            clear ho7 hg7
            refine hK.out _ _ hHeld (fun hHeld => ?_)
            clear hK K
            (try simp only [Act.put, List.getElem_toArray, List.getElem_cons_zero, List.getElem_cons_succ, List.setIfInBounds_toArray, List.set_cons_zero, List.set_cons_succ])
            refine' wpAnyH_take (i := 11) (v := _) rfl (by kernel_rfl) (by kernel_rfl) (by kernel_rfl) (fun _ _ _ h => h) (Or.inl ⟨by rfl, ?hy20008⟩) (by assumption) ?rest20008
            case hy20008 =>
              intro w h
              (try clear h)
              go_simp
              (try with_reducible rfl)
            (try simp only [Act.put, List.getElem_toArray, List.getElem_cons_zero, List.getElem_cons_succ, List.setIfInBounds_toArray, List.set_cons_zero, List.set_cons_succ])
            refine wpAnyH_done (by kernel_rfl) ?_ _
            have HELD := Lib.hid (heldBelow hHeld)
            obtain ⟨wE, hwE⟩ : ∃ w', w' = w7 := ⟨_, rfl⟩
            rw [← hwE] at HELD
            have OE := Lib.hid (show Own wE wC.heap.size v7 (RK.take j ++ [r] ++ RK.drop j) from by rw [hwE]; exact O7_.out)
            have SE := Lib.hid (OS.out.below HELD.out)
            rw [← hwE]
            clear hwE hHeld
            have HEB := Lib.hid (Below.refl wE.heap.size wE)
            go_wp2_with (first
              | ((with_reducible refine at_op (d := some 63) _ ?_); refine wpList_joinV rfl _ _ rfl wE.heap.size _ [] rfl (row_empty wE) _ _ ((P.map (·.1)).take j) _ rfl (by rw [List.length_take, LP.out]; omega) (fun h => by obtain ⟨A, e, h2⟩ := HO1.out h; exact ⟨A, e, fun i u hi => keepc (belowa HELD.out _) (h2 i u hi)⟩) (fun u hu => ONE.out u (List.mem_of_mem_take hu)) (by simp) (by rw [List.length_take, LP.out]; have := HM64.out; omega) wE.heap.size wE (belowa HEB.out _) (Nat.le_refl _) (by simp) (by simp) ?_; intro v13 w13 ho13 hb13; have O13 := Lib.hid ho13; have B13 := Lib.hid hb13; clear ho13 hb13)
              | ((with_reducible refine at_op (d := some 67) _ ?_); refine wpList_joinV rfl _ _ rfl wE.heap.size _ ([] ++ (P.map (·.1)).take j) rfl (O13.out.alloc _) (some ⟨w13.heap.size, 0, none⟩) 1 [Value.slice sa tn sc] 1 rfl rfl (fun _ => ⟨_, rfl, fun i u hi => by have := cell9_one w13 (.slice sa tn sc) 22; cases i with | zero => (simp at hi; subst hi; rw [Addr.add_lit]; exact this) | succ i => (simp at hi)⟩) (fun u hu => by simp at hu; subst hu; rfl) (by simp; have := HM64.out; omega) (by simp) wE.heap.size wE (belowa B13.out _) (Nat.le_refl _) (by have := B13.out.size; simp; omega) (by have := B13.out.size; simp; omega) ?_; intro v14 w14 ho14 hb14; have O14 := Lib.hid ho14; have B14 := Lib.hid hb14; clear ho14 hb14)
              | ((with_reducible refine at_op (d := some 72) _ ?_); refine wpList_joinV rfl _ _ rfl wE.heap.size _ ([] ++ (P.map (·.1)).take j ++ [Value.slice sa tn sc]) rfl O14.out _ _ ((P.map (·.1)).drop j) _ rfl (by rw [List.length_drop, LP.out]; first | done | omega | simp) (fun h => by rw [HO20.out] at h; simp at h) (fun u hu => ONE.out u (List.mem_of_mem_drop hu)) (by simp; have := HM64.out; omega) (by rw [List.length_drop, LP.out]; have := HM64.out; omega) wE.heap.size wE B14.out (Nat.le_refl _) B14.out.size B14.out.size ?_; intro v15 w15 ho15 hb15; have O15 := Lib.hid ho15; have B15 := Lib.hid hb15; clear ho15 hb15))
            go_roundw
            case rel =>
              refine ⟨k + 1, P.take j ++ (.slice sa tn sc, t) :: P.drop j, by omega, by go_num, ?_, joins HB6.out (joins HELD.out B15.out)⟩
              rw [HNX.out]
              refine ⟨(ORC.out.rows.below (joins HELD.out B15.out)).put j ((SE.out.below B15.out).mono HBW.out.size) HAP.out, by rw [← HMS.out]; simp, ?_, wE.heap.size, ?_, by have := HB6.out.size; have := HELD.out.size; omega, fun p hp k' hk' => ?_⟩
              · have := OE.out.below B15.out
                have e : (L.take j ++ t :: L.drop j).map rk = RK.take j ++ [r] ++ RK.drop j := by rw [List.map_append, List.map_cons, List.map_take, List.map_drop, HRK.out, HR.out]; simp
                rw [e]
                exact this.mono HB6.out.size
              · have := O15.out
                have e : ((P.take j ++ (Value.slice sa tn sc, t) :: P.drop j).map (·.1)) = [] ++ (P.map (·.1)).take j ++ [.slice sa tn sc] ++ (P.map (·.1)).drop j := by simp
                rw [e]; exact this
              · rcases List.mem_append.1 hp with h1 | h1
                · have := ((ORC.out.rows.own p (List.mem_of_mem_take h1)).lt k' hk').2; have := HELD.out.size; omega
                · rcases List.mem_cons.1 h1 with rfl | h1
                  · have := (SE.out.lt k' hk').2; exact this
                  · have := ((ORC.out.rows.own p (List.mem_of_mem_drop h1)).lt k' hk').2; have := HELD.out.size; omega
            case measure => simp [intOf]; omega
          · go_simp
            obtain ⟨d2, hdw⟩ : ∃ w', w' = d1.alloc (.cells #[.int .i64 r] 3) := ⟨_, rfl⟩
            rw [← hdw]
            have hb : Below d1.heap.size d1 d2 := by rw [hdw]; exact belowa (Below.refl _ _) _
            have F2_CC := Lib.hid (show d2.cell? ⟨d1.heap.size, 0, none⟩ = some (.int .i64 r) from by rw [hdw]; exact cell9_one _ _ _)
            have hHeld := grownB hHeld hb
            clear hdw hb
            refine hK.out _ _ hHeld (fun hHeld => ?_)
            clear hK K
            (try simp only [Act.put, List.getElem_toArray, List.getElem_cons_zero, List.getElem_cons_succ, List.setIfInBounds_toArray, List.set_cons_zero, List.set_cons_succ])
            refine wpAnyH_ready (rs := [3]) (by kernel_rfl) (by simp) ?_
            refine AllReadyH.cons rfl (fun K hK => ?_) AllReadyH.nil
            have LW_ := Lib.hid hHeld.size
            go_simp
            refine (HOW.out _ _ (HTI.out.below (heldBelow hHeld))).mono ?_
            rintro e d3 ⟨t5, rfl, ho, hb⟩
            have F3_CC := Lib.hid (keepc hb F2_CC.out)
            have F3_O := Lib.hid ho
            have hHeld := grownB hHeld hb
            clear ho hb
            refine hK.out _ _ hHeld (fun hHeld => ?_)
            clear hK K
            (try simp only [Act.put, List.getElem_toArray, List.getElem_cons_zero, List.getElem_cons_succ, List.setIfInBounds_toArray, List.set_cons_zero, List.set_cons_succ])
            refine wpAnyH_ready (rs := [6]) (by kernel_rfl) (by simp) ?_
            refine AllReadyH.cons rfl (fun K hK => ?_) AllReadyH.nil
            have hbw := hHeld.size
            refine step_push rfl (.tmp 51) (.tmp 53) rfl wC.heap.size _ (RK.take j) rfl (F3_O.out.mono LW_.out) d1.heap.size 1 r rfl F3_CC.out HTJ.out wC.heap.size wC (heldBelow hHeld) (Nat.le_refl _) hHeld.size hHeld.size ?_
            intro v6 w6 ho6 hb6 hg6
            have O6_ := Lib.hid ho6
            have hHeld := grown_in hHeld hg6 (fun k hk => ((F3_O.out.mono LW_.out).lt k hk).1)
            clear ho6 hb6 hg6 hbw
            refine hK.out _ _ hHeld (fun hHeld => ?_)
            clear hK K
            (try simp only [Act.put, List.getElem_toArray, List.getElem_cons_zero, List.getElem_cons_succ, List.setIfInBounds_toArray, List.set_cons_zero, List.set_cons_succ])
            refine wpAnyH_ready (rs := [10]) (by kernel_rfl) (by simp) ?_
            refine AllReadyH.cons rfl (fun K hK => ?_) AllReadyH.nil
            refine step_joinI rfl (.tmp 54) (.tmp 57) rfl wC.heap.size _ _ rfl O6_.out _ (RK.drop j) rfl (Or.inl ⟨HDJ0.out, _, _, rfl⟩) HT6.out HT7.out hHeld.size ?_
            intro v7 w7 ho7 hg7
            have O7_ := Lib.hid ho7
            have hHeld := grown_in hHeld hg7 (fun k hk => (O6_.out.lt k hk).1)
            clear ho7 hg7
            refine hK.out _ _ hHeld (fun hHeld => ?_)
            clear hK K
            (try simp only [Act.put, List.getElem_toArray, List.getElem_cons_zero, List.getElem_cons_succ, List.setIfInBounds_toArray, List.set_cons_zero, List.set_cons_succ])
            refine' wpAnyH_take (i := 11) (v := _) rfl (by kernel_rfl) (by kernel_rfl) (by kernel_rfl) (fun _ _ _ h => h) (Or.inl ⟨by rfl, ?hy20109⟩) (by assumption) ?rest20109
            case hy20109 =>
              intro w h
              (try clear h)
              go_simp
              (try with_reducible rfl)
            (try simp only [Act.put, List.getElem_toArray, List.getElem_cons_zero, List.getElem_cons_succ, List.setIfInBounds_toArray, List.set_cons_zero, List.set_cons_succ])
            refine wpAnyH_done (by kernel_rfl) ?_ _
            have HELD := Lib.hid (heldBelow hHeld)
            obtain ⟨wE, hwE⟩ : ∃ w', w' = w7 := ⟨_, rfl⟩
            rw [← hwE] at HELD
            have OE := Lib.hid (show Own wE wC.heap.size v7 (RK.take j ++ [r] ++ RK.drop j) from by rw [hwE]; exact O7_.out)
            have SE := Lib.hid (OS.out.below HELD.out)
            rw [← hwE]
            clear hwE hHeld
            have HEB := Lib.hid (Below.refl wE.heap.size wE)
            go_wp2_with (first
              | ((with_reducible refine at_op (d := some 63) _ ?_); refine wpList_joinV rfl _ _ rfl wE.heap.size _ [] rfl (row_empty wE) _ _ ((P.map (·.1)).take j) _ rfl (by rw [List.length_take, LP.out]; omega) (fun h => by obtain ⟨A, e, h2⟩ := HO1.out h; exact ⟨A, e, fun i u hi => keepc (belowa HELD.out _) (h2 i u hi)⟩) (fun u hu => ONE.out u (List.mem_of_mem_take hu)) (by simp) (by rw [List.length_take, LP.out]; have := HM64.out; omega) wE.heap.size wE (belowa HEB.out _) (Nat.le_refl _) (by simp) (by simp) ?_; intro v13 w13 ho13 hb13; have O13 := Lib.hid ho13; have B13 := Lib.hid hb13; clear ho13 hb13)
              | ((with_reducible refine at_op (d := some 67) _ ?_); refine wpList_joinV rfl _ _ rfl wE.heap.size _ ([] ++ (P.map (·.1)).take j) rfl (O13.out.alloc _) (some ⟨w13.heap.size, 0, none⟩) 1 [Value.slice sa tn sc] 1 rfl rfl (fun _ => ⟨_, rfl, fun i u hi => by have := cell9_one w13 (.slice sa tn sc) 22; cases i with | zero => (simp at hi; subst hi; rw [Addr.add_lit]; exact this) | succ i => (simp at hi)⟩) (fun u hu => by simp at hu; subst hu; rfl) (by simp; have := HM64.out; omega) (by simp) wE.heap.size wE (belowa B13.out _) (Nat.le_refl _) (by have := B13.out.size; simp; omega) (by have := B13.out.size; simp; omega) ?_; intro v14 w14 ho14 hb14; have O14 := Lib.hid ho14; have B14 := Lib.hid hb14; clear ho14 hb14)
              | ((with_reducible refine at_op (d := some 72) _ ?_); refine wpList_joinV rfl _ _ rfl wE.heap.size _ ([] ++ (P.map (·.1)).take j ++ [Value.slice sa tn sc]) rfl O14.out _ _ ((P.map (·.1)).drop j) _ rfl (by rw [List.length_drop, LP.out]; first | done | omega | simp) (fun h => by rw [HO20.out] at h; simp at h) (fun u hu => ONE.out u (List.mem_of_mem_drop hu)) (by simp; have := HM64.out; omega) (by rw [List.length_drop, LP.out]; have := HM64.out; omega) wE.heap.size wE B14.out (Nat.le_refl _) B14.out.size B14.out.size ?_; intro v15 w15 ho15 hb15; have O15 := Lib.hid ho15; have B15 := Lib.hid hb15; clear ho15 hb15))
            go_roundw
            case rel =>
              refine ⟨k + 1, P.take j ++ (.slice sa tn sc, t) :: P.drop j, by omega, by go_num, ?_, joins HB6.out (joins HELD.out B15.out)⟩
              rw [HNX.out]
              refine ⟨(ORC.out.rows.below (joins HELD.out B15.out)).put j ((SE.out.below B15.out).mono HBW.out.size) HAP.out, by rw [← HMS.out]; simp, ?_, wE.heap.size, ?_, by have := HB6.out.size; have := HELD.out.size; omega, fun p hp k' hk' => ?_⟩
              · have := OE.out.below B15.out
                have e : (L.take j ++ t :: L.drop j).map rk = RK.take j ++ [r] ++ RK.drop j := by rw [List.map_append, List.map_cons, List.map_take, List.map_drop, HRK.out, HR.out]; simp
                rw [e]
                exact this.mono HB6.out.size
              · have := O15.out
                have e : ((P.take j ++ (Value.slice sa tn sc, t) :: P.drop j).map (·.1)) = [] ++ (P.map (·.1)).take j ++ [.slice sa tn sc] ++ (P.map (·.1)).drop j := by simp
                rw [e]; exact this
              · rcases List.mem_append.1 hp with h1 | h1
                · have := ((ORC.out.rows.own p (List.mem_of_mem_take h1)).lt k' hk').2; have := HELD.out.size; omega
                · rcases List.mem_cons.1 h1 with rfl | h1
                  · have := (SE.out.lt k' hk').2; exact this
                  · have := ((ORC.out.rows.own p (List.mem_of_mem_drop h1)).lt k' hk').2; have := HELD.out.size; omega
            case measure => simp [intOf]; omega
    · obtain rfl : k = 64 := by omega
      have HFI := Lib.hid (horb.done.mono B3.out.size)
      have HBB := Lib.hid (joins B3.out hbel)
      clear horb hbel
      go_wp2_with fail
      go_returns
      exact ⟨_, rfl, HFI.out, HBB.out⟩
end
end Go.Proofs.Ytcagiecgbjnefab
