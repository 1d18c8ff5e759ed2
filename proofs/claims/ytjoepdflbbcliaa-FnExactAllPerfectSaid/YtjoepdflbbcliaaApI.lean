/- Steps of a region that draws its order, in a fenced walk: a whole struct loaded; one row more at the end of a list of lists. -/
import Derived.Test.YtjoepdflbbcliaaBgI
import Derived.Test.YtjoepdflbbcliaaApp
namespace Go.Proofs.Ytjoepdflbbcliaa
set_option maxRecDepth 100000
open Go.RowKit

theorem stepIn_loadRow {F : Fence} {n : Nat} {P : Program} {ops : Array Oper} {o : Oper} {a : Act} {w : World} {K : Act → World → Prop} {Q : Exit → Act → World → Prop} {E : Prop} (hgd : o.guard = none) (ty : TypeId) (x : Operand) (ho : o.op = .load ty x)
    (g : Nat) (hx : a.eval x = .pointer (some ⟨g, 0, none⟩)) (t : TypeId) (cs : Array Value) (fr : Nat × Nat) (d : TypeDesc) (hg : w.heap[g]? = some (.cells cs t fr))
    (hu : P.underlying ty = some d) (hd : (match d with | .struct _ | .array _ _ => true | _ => false) = true) (hi : (P.info? ty).map (·.size) = some cs.size)
    (h : K (a.put o.dst (.agg cs)) w) : if Region.wanted o (yielded ops a.tmps) = true then Oper.wpIn F n P o a w K Q else E := by
  have hw : Region.wanted o (yielded ops a.tmps) = true := by simp [Region.wanted, hgd]
  rw [if_pos hw]
  unfold Oper.wpIn
  refine ⟨by simp [Oper.about, ho], ?_⟩
  rw [Oper.semAt_plain F _ _ (by rw [ho]; intro c hc'; cases hc')]
  simp only [execOp, ho, hx, Instr.loadAt, Instr.sureAddr, Sem.run_bind, Sem.run_pure, Result.andThen_ok, run_loadVar_row w g t ty cs fr d hg hu hd hi]
  exact h
theorem stepIn_pushR {F : Fence} {n : Nat} {ops : Array Oper} {o : Oper} {a : Act} {w : World} {K : Act → World → Prop} {Q : Exit → Act → World → Prop} {E : Prop} (hgd : o.guard = none) (s x : Operand)
    (ho : o.op = .call { callee := .builtin .append, args := #[s, x], argTypes := #[31, 31] }) (B : Nat) (v : Value) (ll : List (List Int)) (hs : a.eval s = v)
    (wr : World) (hown : OwnR wr B v ll) (hwr : Below wr.heap.size wr w)
    (g c : Nat) (r : Value) (l : List Int) (hx : a.eval x = .slice (some ⟨g, 0, none⟩) 1 c) (hc : w.cell? ⟨g, 0, none⟩ = some r) (hr : Own w wr.heap.size r l)
    (hlen : ll.length ≤ 1048576)
    (S : Nat) (w0 : World) (hb : Below S w0 w) (hS : S ≤ B) (hB : B ≤ wr.heap.size) (hSw : S ≤ w.heap.size)
    (hK : ∀ v' w', OwnR w' B v' (ll ++ [l]) → Below S w0 w' → w.grownBy w' v.ownBlock → K (a.put o.dst v') w') :
    if Region.wanted o (yielded ops a.tmps) = true then Oper.wpIn F n Try.prog o a w K Q else E := by
  obtain ⟨i0, hi, hz0, hz1, hz2⟩ := info_parts infoRow
  obtain ⟨rs, hrow0, hrs0, hapo⟩ := hown
  have hrow := rowBelow hrow0 hwr
  have hrs := hrs0.below hwr
  have hsz := hwr.size
  have hw : Region.wanted o (yielded ops a.tmps) = true := by simp [Region.wanted, hgd]
  rw [if_pos hw]
  obtain ⟨g', cap, w', hrun, hown', hgr, hblk, _⟩ := run_append_lies (P := Try.prog) w 31 o.type B 22 i0 (.slice none 0 0) 1 24 Try.underlying31 hi hz0 hz1 hz2 rfl (by decide) v ll.length rs hrow ⟨g, 0, none⟩ 1 c [r] rfl
    (fun j u hj => by
      match j, hj with
      | 0, hj => simp at hj; subst hj; simpa [Addr.add] using hc) (fun u hu => by simp at hu; subst hu; exact hr.oneCell) (by omega) (by unfold maxLen; omega) (by omega) (Nat.le_trans hB hsz) _ rfl
  unfold Oper.wpIn
  refine ⟨by simp [Oper.about, ho, resolve, Target.leads, Sem.run_pure], ?_⟩
  rw [Oper.semAt_plain F _ _ (by rw [ho]; intro c hc'; cases hc')]
  simp only [execOp, ho, resolve, invoke, builtin, Sem.run_bind, Sem.run_pure, Result.andThen_ok, List.map_toArray, List.map_cons, List.map_nil, hs, hx, hrun]
  have hrv : ∀ k, r.ownBlock = some k → v.ownBlock ≠ some k := fun k h1 h2 => by have := (hr.lt k h1).1; have := (hrow0.lt k h2).2; omega
  refine hK _ w' ⟨rs ++ [r], ?_, ?_, ?_⟩ (hb.grown hgr hSw (fun k hk => Nat.le_trans hS (hrow.lt k hk).1)) hgr
  · rw [List.length_append]; exact hown'
  · refine (hrs.grown hgr (fun i hi k hk => hapo i hi k hk)).push ((hr.mono hB).grown hgr (fun k hk => hrv k hk)) (fun i hi k hk hk' => ?_)
    have h1 := (hr.lt k hk').1
    have h2 := (hrs0.lt i hi k hk).2
    omega
  · intro i hi k hk hk'
    have hlt : k < w.heap.size ∧ v.ownBlock ≠ some k := by
      by_cases e : i < ll.length
      · rw [getD_left _ _ _ _ (by rw [hrs.len]; exact e)] at hk
        exact ⟨(hrs.lt i e k hk).2, hapo i e k hk⟩
      · have : i = ll.length := by simp at hi; omega
        subst this
        rw [← hrs.len, getD_end] at hk
        exact ⟨(hr.lt k hk).2, hrv k hk⟩
    have hk2 : g' = k := by simpa [Value.ownBlock] using hk'
    rcases hblk with e | e
    · rw [hk2] at e
      exact hlt.2 e
    · omega
/-- A list of lists lies as it lay behind the turn of one block that it doesn't own. -/
theorem OwnR.turned {w w' : World} {B k : Nat} {v : Value} {ll : List (List Int)} (h : OwnR w B v ll) (hg : w.grownBy w' (some k)) (hk : k < B) : OwnR w' B v ll := by
  obtain ⟨rs, h0, h1, h2⟩ := h
  refine ⟨rs, World.ownsRow.kept h0 hg ?_, ⟨h1.len, fun i hi => Own.grown (h1.own i hi) hg (fun j hj e => ?_), h1.apart⟩, h2⟩
  · cases hv : v.ownBlock with
    | none => exact .inl rfl
    | some j => exact .inr (fun e => by cases e; have := (h0.lt k hv).1; omega)
  · cases e; have := (h1.lt i hi k hj).1; omega
end Go.Proofs.Ytjoepdflbbcliaa
