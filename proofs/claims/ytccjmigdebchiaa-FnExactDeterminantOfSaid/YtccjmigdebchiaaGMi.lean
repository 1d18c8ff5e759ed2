/- Lists of lists of Gaussian numbers: parts of their rows appended. -/
import Derived.Test.YtccjmigdebchiaaRwG
namespace Go.Proofs.Ytccjmigdebchiaa
set_option maxRecDepth 100000
open Go.RowKit

/-- The row at i of a list of lists of the call's own. -/
theorem OwnRG.at {w : World} {B : Nat} {v : Value} {ll : List (List (Int × Int))} (h : OwnRG w B v ll) (i : Nat) (hi : i < ll.length) :
    ∃ g cap u, v = .slice (some ⟨g, 0, none⟩) ll.length cap ∧ ll.length ≤ cap ∧ cap ≤ maxLen ∧ w.cell? ⟨g, i, none⟩ = some u ∧ OwnG w B u (ll.getD i []) := by
  obtain ⟨rs, h, hr, -⟩ := h
  have h' := h
  rcases h.2 with ⟨_, h0⟩ | ⟨g, cap, cur, rfl, hg, hh, hn, hcap, rest⟩
  · omega
  · have h2 : w.ownsRow B 34 1 (.slice (some ⟨g, 0, none⟩) ll.length cap) ll.length rs := h'
    refine ⟨g, cap, rs.getD i (.slice none 0 0), rfl, hn, hcap, ?_, hr.own i hi⟩
    rw [h2.cellAt i (by omega)]
    have : i < rs.length := by rw [hr.len]; exact hi
    simp [List.getD, this]
theorem OwnG.parts {w : World} {B : Nat} {v : Value} {l : List (Int × Int)} (h : OwnG w B v l) (hl : 0 < l.length) :
    ∃ g cap, v = .slice (some ⟨g, 0, none⟩) l.length cap ∧ l.length ≤ cap ∧ cap ≤ maxLen ∧ ∀ j u, (fl l)[j]? = some u → w.cell? ⟨g, j, none⟩ = some u := by
  have h' := h
  rcases h.2 with ⟨_, h0⟩ | ⟨g, cap, cur, rfl, hg, hh, hn, hcap, rest⟩
  · omega
  · have h2 : w.ownsRow B 25 2 (.slice (some ⟨g, 0, none⟩) l.length cap) l.length (fl l) := h'
    refine ⟨g, cap, rfl, hn, hcap, fun j u hj => ?_⟩
    have hjl : j < l.length * 2 := by have := (List.getElem?_eq_some_iff.1 hj).1; rw [fl_length] at this; exact this
    rw [h2.cellAt j hjl, hj]
theorem OwnG.fresh (w : World) (B : Nat) (hB : B ≤ w.heap.size) : OwnG (w.alloc (.cells #[] 25)) B (.slice (some ⟨w.heap.size, 0, none⟩) 0 0) [] :=
  ⟨rfl, Or.inr ⟨w.heap.size, 0, #[], rfl, hB, by unfold World.alloc; exact Array.getElem?_push_size, Nat.le_refl _, Nat.zero_le _, rfl, rfl⟩⟩
theorem fl_take (l : List (Int × Int)) (k : Nat) : fl (l.take k) = (fl l).take (k * 2) := by
  induction l generalizing k with
  | nil => simp [fl]
  | cons p t ih =>
    cases k with
    | zero => simp [fl]
    | succ k => rw [List.take_succ_cons, fl_cons, fl_cons, show (k + 1) * 2 = k * 2 + 1 + 1 by omega, List.take_succ_cons, List.take_succ_cons, ih]
theorem fl_drop (l : List (Int × Int)) (k : Nat) : fl (l.drop k) = (fl l).drop (k * 2) := by
  induction l generalizing k with
  | nil => simp [fl]
  | cons p t ih =>
    cases k with
    | zero => simp
    | succ k => rw [List.drop_succ_cons, fl_cons, show (k + 1) * 2 = k * 2 + 1 + 1 by omega, List.drop_succ_cons, List.drop_succ_cons, ih]
/-- A part of another list appended to a list of the call's own. -/
theorem wpList_partG {ops : Array Oper} {rest : List Oper} {o : Oper} {a : Act} {w : World} {Q : Exit → Act → World → Prop} (hg : o.guard = none) (s x : Operand)
    (ho : o.op = .call { callee := .builtin .append, args := #[s, x], argTypes := #[34, 34] }) (B : Nat) (v : Value) (l m : List (Int × Int)) (hs : a.eval s = v) (hown : OwnG w B v l)
    (ad : Addr) (k c : Nat) (hx : a.eval x = .slice (some ad) k c) (hk : k = m.length) (hc : ∀ j u, (fl m)[j]? = some u → w.cell? (ad.add j) = some u) (hlen : l.length + m.length ≤ 1048576)
    (S : Nat) (w0 : World) (hb : Below S w0 w) (hS : S ≤ B) (hB : B ≤ w.heap.size) (hSw : S ≤ w.heap.size)
    (hK : ∀ v' w', OwnG w' B v' (l ++ m) → Below S w0 w' → (v' = .slice none 0 0 → v = .slice none 0 0) → wpList Try.prog ops Q rest (a.put o.dst v') w') : wpList Try.prog ops Q (o :: rest) a w := by
  obtain ⟨i0, hi, hz0, hz1, hz2⟩ := info_parts infoG
  subst hk
  refine wpList_append_own w hg s x 34 ho B 25 i0 (.agg #[.int .i64 0, .int .i64 0]) 2 16 Try.underlying34 hi hz0 hz1 hz2 rfl (by decide) v l.length (fl l) hs hown ad m.length c (fl m) hx (fl_length m) hc (fl_one m) ?_ ?_ hB ?_
  · unfold maxLen; omega
  · omega
  · intro v' w' hown' hgr hnil
    refine hK v' w' ?_ (hb.grown hgr hSw (fun k hk => Nat.le_trans hS (hown.lt k hk).1)) (fun e => (hnil.1 e).1)
    unfold OwnG
    rw [List.length_append, fl_append]
    exact hown'
/-- The list without its first row and the column j. -/
def miG (j : Nat) (m : List (List (Int × Int))) : List (List (Int × Int)) := (m.drop 1).map (fun r => r.eraseIdx j)
theorem miG_length (j : Nat) (m : List (List (Int × Int))) : (miG j m).length = m.length - 1 := by simp [miG]
theorem miG_take (j : Nat) (m : List (List (Int × Int))) (i : Nat) (h : i + 1 < m.length) : (miG j m).take (i + 1) = (miG j m).take i ++ [(m.getD (i + 1) []).take j ++ (m.getD (i + 1) []).drop (j + 1)] := by
  have h2 : i < (miG j m).length := by rw [miG_length]; omega
  rw [List.take_succ_eq_append_getElem h2]
  congr 1
  simp [miG, List.getD, h, List.eraseIdx_eq_take_drop_succ]
end Go.Proofs.Ytccjmigdebchiaa
