/- The program's perfectSequences and countOf. -/
import Derived.Test.YtjoepdflbbcliaaIPc
namespace Go.Proofs.Ytjoepdflbbcliaa
set_option maxRecDepth 100000
open Go.RowKit
attribute [local go_sem] Oper.semAt_some

/-- A search's value: its boxes were made since. -/
def PsMade (N : Nat) (w : World) (e : Ending) (w' : World) : Prop := ∃ Bs Bw Bn : Nat,
  e = .returned (.func (.func 70) #[] #[.pointer (some ⟨Bs, 0, none⟩), .pointer (some ⟨Bw, 0, none⟩)]) ∧
  (w.heap.size ≤ Bs ∧ Bs < w'.heap.size) ∧ (w.heap.size ≤ Bw ∧ Bw < w'.heap.size) ∧ (w.heap.size ≤ Bn ∧ Bn < w'.heap.size) ∧
  w'.cell? ⟨Bs, 0, none⟩ = some (.int .i64 N) ∧ w'.cell? ⟨Bw, 0, none⟩ = some (.func (.func 60) #[] #[.pointer (some ⟨Bn, 0, none⟩)]) ∧ w'.cell? ⟨Bn, 0, none⟩ = some (.int .i64 N) ∧
  Below w.heap.size w w'
theorem cell_n (W : World) (v : Value) (t : TypeId) : (W.alloc (.cells #[v] t)).cell? ⟨W.heap.size, 0, none⟩ = some v := (Boxed.new W t v).cell
theorem cell_o {W : World} {a : Addr} {v : Value} (o : Obj) (h : W.cell? a = some v) : (W.alloc o).cell? a = some v := cell_kept h (World.grownBy_alloc W o none) (fun r e => by cases e)

set_option maxHeartbeats 1000000 in
theorem perfectOf_any (N : Nat) (Bn : Nat) (w : World) : Calls Try.prog 59 #[.int .i64 N, .func (.func 60) #[] #[.pointer (some ⟨Bn, 0, none⟩)]] w
    fun e w' => e = .returned (.func (.func 70) #[] #[.pointer (some ⟨w.heap.size, 0, none⟩), .pointer (some ⟨w.heap.size + 1, 0, none⟩)]) ∧
      w'.cell? ⟨w.heap.size, 0, none⟩ = some (.int .i64 N) ∧ w'.cell? ⟨w.heap.size + 1, 0, none⟩ = some (.func (.func 60) #[] #[.pointer (some ⟨Bn, 0, none⟩)]) ∧ w'.heap.size = w.heap.size + 2 ∧ Below w.heap.size w w' := by
  go_enter Try.func59, Try.ntmps59
  go_wp2_with fail
  go_returns
  refine ⟨rfl, cell_o _ (cell_n _ _ _), ?_, by simp, by go_grown⟩
  have := cell_n (w.alloc (.cells #[Value.int .i64 N] 3)) (.func (.func 60) #[] #[.pointer (some ⟨Bn, 0, none⟩)])
  rw [World.size_alloc] at this
  exact this _

set_option maxHeartbeats 1000000 in
theorem perfectSeqs_any (N : Nat) (w : World) : Calls Try.prog 41 #[.int .i64 N] w (PsMade N w) := by
  have HP := Lib.hid (fun w' => perfectOf_any N w.heap.size w')
  have hc := cell_n w (.int .i64 N) 3
  go_enter Try.func41, Try.ntmps41
  go_wp2_with fail
  refine (HP.out _).mono ?_
  rintro e w1 ⟨rfl, h1, h2, h3, hb⟩
  have HB := Lib.hid hb
  have h4 := hc
  rw [← hb.cell (p := ⟨w.heap.size, 0, none⟩) (by simp)] at h4
  rw [World.size_alloc] at h1 h2 h3
  have H1 := Lib.hid h1
  have H2 := Lib.hid h2
  have H3 := Lib.hid h3
  have H4 := Lib.hid h4
  clear hb h1 h2 h3 h4
  go_wp2_with fail
  go_returns
  exact ⟨w.heap.size + 1, w.heap.size + 2, w.heap.size, by simp, by have := H3.out; omega, by have := H3.out; omega, by have := H3.out; omega, H1.out, H2.out, H4.out, joins (belowa (Below.refl _ _) _) HB.out⟩

set_option maxRecDepth 100000 in
set_option maxHeartbeats 2000000 in
theorem countPs_any (N : Nat) (hN : N ≤ 8) (Bs Bw Bn : Nat) (w : World) (h1 : Bs < w.heap.size) (h2 : Bw < w.heap.size) (h3 : Bn < w.heap.size)
    (c1 : w.cell? ⟨Bs, 0, none⟩ = some (.int .i64 N)) (c2 : w.cell? ⟨Bw, 0, none⟩ = some (.func (.func 60) #[] #[.pointer (some ⟨Bn, 0, none⟩)])) (c3 : w.cell? ⟨Bn, 0, none⟩ = some (.int .i64 N)) :
    Calls Try.prog 40 #[.func (.func 70) #[] #[.pointer (some ⟨Bs, 0, none⟩), .pointer (some ⟨Bw, 0, none⟩)]] w (Ret w (.int .i64 (pcH N).length)) := by
  obtain ⟨S, hS⟩ : ∃ S : Nat → Prop, S = fun k => k = Bs ∨ k = Bw ∨ k = Bn := ⟨_, rfl⟩
  have hlt : ∀ k, S k → k < w.heap.size := fun k hk => by rw [hS] at hk; rcases hk with rfl | rfl | rfl <;> assumption
  have s1 : S Bs := by rw [hS]; exact .inl rfl
  have s2 : S Bw := by rw [hS]; exact .inr (.inl rfl)
  have s3 : S Bn := by rw [hS]; exact .inr (.inr rfl)
  have hp := pow4_le' N hN
  have hq := Lib.hid (perfectOf1 2 (by omega) N hN Bs Bw Bn S s1 s2 s3 (w.alloc (.cells #[Value.int .i64 0] 3)) (fun k hk => by have := hlt k hk; simp; omega) (cell_o _ c1) (cell_o _ c2) (cell_o _ c3))
  clear hS
  refine (callsIn_wide (n := 3)).1 ?_
  refine callsIn_of_wp_marks Try.func40 rfl trivial ?_ rfl
  simp only [Try.ntmps40, List.size_toArray, List.length_cons, List.length_nil, Nat.reduceAdd, Nat.reduceSub, Array.replicate_succ, Array.replicate_zero, List.push_toArray, List.append_toArray, List.nil_append, List.cons_append]
  gi_wp2
  have bS := Boxed.new w 3 (.int .i64 0)
  refine wpIn_rangeFunc_ownG rfl (by omega) (gf := 70) (lb := #[.pointer (some ⟨Bs, 0, none⟩), .pointer (some ⟨Bw, 0, none⟩)]) rfl trivial (enters_of Try.func70 (by kernel_rfl) rfl)
    hq.out keepS_t (keepS_b (fun k hk => by have := hlt k hk; simp; omega)) (Below.refl _ _) (fun _ => rfl)
    (fun pre W => Boxed W w.heap.size 3 (.int .i64 (pre.length : Nat)) ∧ Below w.heap.size w W)
    (fun _ _ _ => False)
    (OwnFrom.and (Own.from (boxed_own _ _ _) _) (ownFrom_below (Nat.le_refl _) (by simp)))
    (fun _ _ _ _ _ hs _ _ => hs)
    ⟨bS, (Below.refl _ w).alloc (Nat.le_refl _) _⟩
    (fun x => { tmps := #[.func (.func 70) #[] #[.pointer (some ⟨Bs, 0, none⟩), .pointer (some ⟨Bw, 0, none⟩)], undef, .int .i64 0, .pointer (some ⟨w.heap.size, 0, none⟩), .func (.func 70) #[] #[.pointer (some ⟨Bs, 0, none⟩), .pointer (some ⟨Bw, 0, none⟩)], .agg (pcD N x), undef, undef, undef], defers := [] }) ?assign ?body ?done ?stop
  case assign =>
    intro l x W K hK
    gi_wp2
    simpa using hK
  case body =>
    rintro l pre x W ⟨hc, hB⟩ hlen
    have cc := hc.cell
    have cf := hc.frozen
    have hl2 : (pre.length : Int) ≤ 65536 := by omega
    gi_wp2
    exact ⟨(KeepsOthers.setCell _ _ _).from _, KeepS.below hlt ((Below.refl _ W).setCell (p := ⟨w.heap.size, 0, none⟩) (Nat.le_refl _) _), by
      have := hc.set (.int .i64 ((pre ++ [x]).length : Nat))
      simpa using this, hB.setCell (p := ⟨w.heap.size, 0, none⟩) (Nat.le_refl _) _⟩
  case done =>
    rintro D xs W hD rfl ⟨hc, hB⟩ hK
    have cc := hc.cell
    gi_wp2
    refine ⟨by simp, .inl ⟨_, _, rfl, run_takeDeferred hK, ?_⟩⟩
    exact ⟨_, results_tmp rfl _ _ _, rfl, hB.trans (belowK_b (w := w) (Nat.le_refl _) W D _ _ (by simp at hD; omega) hK rfl rfl)⟩
  case stop =>
    rintro D c pre W _ _ h _
    exact h.elim
end Go.Proofs.Ytjoepdflbbcliaa
