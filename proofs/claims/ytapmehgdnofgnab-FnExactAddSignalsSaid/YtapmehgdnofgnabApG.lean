/- One Gaussian number more on a list of the call's own, as a step of a region that draws its order. -/
import Derived.Test.YtapmehgdnofgnabApp
import Derived.Test.YtapmehgdnofgnabGsn
namespace Go.Proofs.Ytapmehgdnofgnab
set_option maxRecDepth 100000
open Go.RowKit

theorem OwnG.ne {w : World} {B : Nat} {v : Value} {l : List (Int × Int)} (h : OwnG w B v l) {k : Nat} (hk : k < B) : v.ownBlock ≠ some k := fun e => by have := (h.lt k e).1; omega
theorem step_pushG {ops : Array Oper} {o : Oper} {a : Act} {w : World} {K : Act → World → Prop} {Q : Exit → Act → World → Prop} {E : Prop} (hg : o.guard = none) (s x : Operand)
    (ho : o.op = .call { callee := .builtin .append, args := #[s, x], argTypes := #[29, 29] }) (B : Nat) (v : Value) (l : List (Int × Int)) (hs : a.eval s = v) (hown : OwnG w B v l)
    (g c : Nat) (y z : Int) (hx : a.eval x = .slice (some ⟨g, 0, none⟩) 1 c) (hc : w.cell? ⟨g, 0, none⟩ = some (.int .i64 y)) (hc1 : w.cell? ⟨g, 1, none⟩ = some (.int .i64 z)) (hlen : l.length ≤ 1048576)
    (S : Nat) (w0 : World) (hb : Below S w0 w) (hS : S ≤ B) (hB : B ≤ w.heap.size) (hSw : S ≤ w.heap.size)
    (hK : ∀ v' w', OwnG w' B v' (l ++ [(y, z)]) → Below S w0 w' → w.grownBy w' v.ownBlock → K (a.put o.dst v') w') :
    if Region.wanted o (yielded ops a.tmps) = true then Oper.wp Try.prog o a w K Q else E := by
  obtain ⟨i0, hi, hz0, hz1, hz2⟩ := info_parts infoG
  refine step_append_lies (P := Try.prog) (w := w) hg s x 29 ho B 26 i0 (.agg #[.int .i64 0, .int .i64 0]) 2 16 Try.underlying29 hi hz0 hz1 hz2 rfl (by decide) v l.length (fl l) hs hown ⟨g, 0, none⟩ 1 c [.int .i64 y, .int .i64 z] hx rfl ?_ ?_ (by omega) ?_ ?_ hB _ rfl ?_
  · intro j u hj
    match j, hj with
    | 0, hj => simp at hj; subst hj; simpa [Addr.add] using hc
    | 1, hj => simp at hj; subst hj; simpa [Addr.add] using hc1
  · intro u hu; simp at hu; rcases hu with rfl | rfl <;> rfl
  · unfold maxLen; omega
  · omega
  · intro g' cap w' hown' hgr hblk hlt
    refine hK _ w' ?_ (hb.grown hgr hSw (fun k hk => Nat.le_trans hS (hown.lt k hk).1)) hgr
    unfold OwnG
    rw [List.length_append, fl_append]
    exact hown'
end Go.Proofs.Ytapmehgdnofgnab
