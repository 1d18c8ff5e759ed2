/- One element more on a list of the call's own, as a step of a region that draws its order. One Gaussian number more on a list of the call's own, as a step of a region that draws its order. -/
import Derived.Deep.AppendLies
import Derived.Test.YtcagiecgbjnefabRg
import Derived.Test.YtcagiecgbjnefabRw
import Derived.Test.YtcagiecgbjnefabGsn
namespace Go.Proofs.Ytcagiecgbjnefab
set_option maxRecDepth 100000
section
open Go.RowKit

theorem grownA {w0 w : World} {row : Option Nat} (h : w0.grownBy w row) (o : Obj) : w0.grownBy (w.alloc o) row :=
  ⟨h.os, h.tape, h.output, Nat.le_trans h.size (by simp), fun k hk hne => (heap_alloc_old w o (Nat.lt_of_lt_of_le hk h.size)).trans (h.block k hk hne)⟩
theorem cell_new_one (w : World) (v : Value) (t : TypeId) : (w.alloc (.cells #[v] t)).cell? ⟨w.heap.size, 0, none⟩ = some v := by rw [cell_of_row _ _ _ _ _ _ (heap_alloc_new w _)]; rfl
theorem Own.ne {w : World} {B : Nat} {v : Value} {l : List Int} (h : Own w B v l) {k : Nat} (hk : k < B) : v.ownBlock ≠ some k := fun e => by have := (h.lt k e).1; omega
theorem OwnR.ne {w : World} {B : Nat} {v : Value} {l : List (List Int)} (h : OwnR w B v l) {k : Nat} (hk : k < B) : v.ownBlock ≠ some k := fun e => by have := (h.lt k e).1; omega
theorem step_push {ops : Array Oper} {o : Oper} {a : Act} {w : World} {K : Act → World → Prop} {Q : Exit → Act → World → Prop} {E : Prop} (hg : o.guard = none) (s x : Operand)
    (ho : o.op = .call { callee := .builtin .append, args := #[s, x], argTypes := #[22, 22] }) (B : Nat) (v : Value) (l : List Int) (hs : a.eval s = v) (hown : Own w B v l)
    (g c : Nat) (y : Int) (hx : a.eval x = .slice (some ⟨g, 0, none⟩) 1 c) (hc : w.cell? ⟨g, 0, none⟩ = some (.int .i64 y)) (hlen : l.length ≤ 1048576)
    (S : Nat) (w0 : World) (hb : Below S w0 w) (hS : S ≤ B) (hB : B ≤ w.heap.size) (hSw : S ≤ w.heap.size)
    (hK : ∀ v' w', Own w' B v' (l ++ [y]) → Below S w0 w' → w.grownBy w' v.ownBlock → K (a.put o.dst v') w') :
    if Region.wanted o (yielded ops a.tmps) = true then Oper.wp Try.prog o a w K Q else E := by
  obtain ⟨i0, hi, hz0, hz1, hz2⟩ := info_parts infoInt
  refine step_append_lies (P := Try.prog) (w := w) hg s x 22 ho B 3 i0 (.int .i64 0) 1 8 Try.underlying22 hi hz0 hz1 hz2 rfl (by decide) v l.length (l.map (Value.int .i64)) hs hown ⟨g, 0, none⟩ 1 c [.int .i64 y] hx rfl ?_ ?_ (by omega) ?_ ?_ hB _ rfl ?_
  · intro j u hj
    match j, hj with
    | 0, hj => simp at hj; subst hj; simpa [Addr.add] using hc
  · intro u hu; simp at hu; subst hu; rfl
  · unfold maxLen; omega
  · omega
  · intro g' cap w' hown' hgr hblk hlt
    refine hK _ w' ?_ (hb.grown hgr hSw (fun k hk => Nat.le_trans hS (hown.lt k hk).1)) hgr
    unfold Own
    rw [List.length_append, List.map_append]
    exact hown'
/-- One row more, made since an earlier world. -/
theorem step_pushR {ops : Array Oper} {o : Oper} {a : Act} {w : World} {K : Act → World → Prop} {Q : Exit → Act → World → Prop} {E : Prop} (hg : o.guard = none) (s x : Operand)
    (ho : o.op = .call { callee := .builtin .append, args := #[s, x], argTypes := #[23, 23] }) (B : Nat) (v : Value) (ll : List (List Int)) (hs : a.eval s = v)
    (wr : World) (hown : OwnR wr B v ll) (hwr : Below wr.heap.size wr w)
    (g c : Nat) (r : Value) (l : List Int) (hx : a.eval x = .slice (some ⟨g, 0, none⟩) 1 c) (hc : w.cell? ⟨g, 0, none⟩ = some r) (hr : Own w wr.heap.size r l)
    (hlen : ll.length ≤ 1048576)
    (S : Nat) (w0 : World) (hb : Below S w0 w) (hS : S ≤ B) (hB : B ≤ wr.heap.size) (hSw : S ≤ w.heap.size)
    (hK : ∀ v' w', OwnR w' B v' (ll ++ [l]) → Below S w0 w' → w.grownBy w' v.ownBlock → K (a.put o.dst v') w') :
    if Region.wanted o (yielded ops a.tmps) = true then Oper.wp Try.prog o a w K Q else E := by
  obtain ⟨i0, hi, hz0, hz1, hz2⟩ := info_parts infoRow
  obtain ⟨rs, hrow0, hrs0, hapo⟩ := hown
  have hrow := rowBelow hrow0 hwr
  have hrs := hrs0.below hwr
  have hsz := hwr.size
  refine step_append_lies (P := Try.prog) (w := w) hg s x 23 ho B 22 i0 (.slice none 0 0) 1 24 Try.underlying23 hi hz0 hz1 hz2 rfl (by decide) v ll.length rs hs hrow ⟨g, 0, none⟩ 1 c [r] hx rfl ?_ ?_ (by omega) ?_ ?_ (Nat.le_trans hB hsz) _ rfl ?_
  · intro j u hj
    match j, hj with
    | 0, hj => simp at hj; subst hj; simpa [Addr.add] using hc
  · intro u hu; simp at hu; subst hu; exact hr.oneCell
  · unfold maxLen; omega
  · omega
  · intro g' cap w' hown' hgr hblk _
    have hrv : ∀ k, r.ownBlock = some k → v.ownBlock ≠ some k := fun k h1 h2 => by have := (hr.lt k h1).1; have := (hrow0.lt k h2).2; omega
    refine hK _ w' ⟨rs ++ [r], ?_, ?_, ?_⟩ (hb.grown hgr hSw (fun k hk => Nat.le_trans hS (hrow.lt k hk).1)) hgr
    · rw [List.length_append]; exact hown'
    · refine (hrs.grown hgr (fun i hi k hk => hapo i hi k hk)).push ((hr.mono hB).grown hgr (fun k hk => hrv k hk)) (fun i hi k hk hk' => ?_)
      have h1 := (hr.lt k hk').1
      have h2 := (hrs0.lt i hi k hk).2
      omega
    · intro i hi k hk hk'
      have hlt : k < w.heap.size ∧ v.ownBlock ≠ some k := by
        by_cases e : i < ll.length
        · rw [getD_left _ _ _ _ (by rw [hrs.len]; exact e)] at hk
          exact ⟨(hrs.lt i e k hk).2, hapo i e k hk⟩
        · have : i = ll.length := by simp at hi; omega
          subst this
          rw [← hrs.len, getD_end] at hk
          exact ⟨(hr.lt k hk).2, hrv k hk⟩
      have hk2 : g' = k := by simpa [Value.ownBlock] using hk'
      rcases hblk with e | e
      · rw [hk2] at e
        exact hlt.2 e
      · omega
end
section
open Go.RowKit

theorem OwnG.ne {w : World} {B : Nat} {v : Value} {l : List (Int × Int)} (h : OwnG w B v l) {k : Nat} (hk : k < B) : v.ownBlock ≠ some k := fun e => by have := (h.lt k e).1; omega
end
end Go.Proofs.Ytcagiecgbjnefab
