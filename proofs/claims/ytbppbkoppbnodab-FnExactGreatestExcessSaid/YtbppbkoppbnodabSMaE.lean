/- The model's ExcessOf. -/
import Derived.Test.YtbppbkoppbnodabSMa
import Derived.Test.YtbppbkoppbnodabMaG
import Derived.Test.YtbppbkoppbnodabSPhS
import Derived.Test.YtbppbkoppbnodabCors
namespace Go.Proofs.Ytbppbkoppbnodab
set_option maxRecDepth 100000
open Go.RowKit

/-- The call's zero block and, somewhere behind it, the block of a sum. -/
structure ZT (w : World) (h : Nat) (X Y : Int) (wr : World) : Prop where
  below : Below w.heap.size w wr
  c0 : wr.cell? ⟨w.heap.size, 0, none⟩ = some (.int .i64 0)
  c1 : wr.cell? ⟨w.heap.size, 1, none⟩ = some (.int .i64 0)
  f0 : wr.frozen? ⟨w.heap.size, 0, none⟩ = false
  f1 : wr.frozen? ⟨w.heap.size, 1, none⟩ = false
  d0 : wr.cell? ⟨h, 0, none⟩ = some (.int .i64 X)
  d1 : wr.cell? ⟨h, 1, none⟩ = some (.int .i64 Y)
  g0 : wr.frozen? ⟨h, 0, none⟩ = false
  g1 : wr.frozen? ⟨h, 1, none⟩ = false
  lt : w.heap.size < h
  size : h < wr.heap.size
theorem ZT.step {w wr w' : World} {h : Nat} {X Y : Int} (z : ZT w h X Y wr) (hb : Below wr.heap.size wr w') : ZT w h X Y w' :=
  ⟨joins z.below hb, keepc hb z.c0, keepc hb z.c1, (hb.frozen (p := ⟨w.heap.size, 0, none⟩) (by have := z.size; have := z.lt; simp; omega)).trans z.f0, (hb.frozen (p := ⟨w.heap.size, 1, none⟩) (by have := z.size; have := z.lt; simp; omega)).trans z.f1,
   keepc hb z.d0, keepc hb z.d1, (hb.frozen (p := ⟨h, 0, none⟩) z.size).trans z.g0, (hb.frozen (p := ⟨h, 1, none⟩) z.size).trans z.g1, z.lt, Nat.lt_of_lt_of_le z.size hb.size⟩
theorem ZT.drew {w wr : World} {h : Nat} {X Y : Int} (z : ZT w h X Y wr) : ZT w h X Y wr.drew :=
  ⟨belowN z.below 1, z.c0, z.c1, z.f0, z.f1, z.d0, z.d1, z.g0, z.g1, z.lt, z.size⟩
theorem ZT.start {w w1 : World} (z : ZG w w1) (T : TypeId) : ZT w w1.heap.size 0 0 (w1.alloc (.cells #[.int .i64 0, .int .i64 0] T)) := by
  have z' := z.step (belowa (Below.refl _ _) (.cells #[.int .i64 0, .int .i64 0] T))
  exact ⟨z'.below, z'.c0, z'.c1, z'.f0, z'.f1, cell_new0 _ _ _ _, cell_new1 _ _ _ _, World.frozen?_alloc_new .., World.frozen?_alloc_new .., z.size, by simp⟩
theorem ZT.store {w wr : World} {h : Nat} {X Y : Int} (z : ZT w h X Y wr) (X1 Y1 : Int) : ZT w h X1 Y1 ((wr.setCell ⟨h, 0, none⟩ (.int .i64 X1)).setCell ⟨h, 1, none⟩ (.int .i64 Y1)) := by
  have hne : ¬ h = w.heap.size := by have := z.lt; omega
  refine ⟨belows (belows z.below (Nat.le_of_lt z.lt) _) (Nat.le_of_lt z.lt) _, keeps (keeps z.c0 (by simpa using hne)) (by simpa using hne), keeps (keeps z.c1 (by simpa using hne)) (by simpa using hne), ?_, ?_, ?_, ?_, ?_, ?_, z.lt, ?_⟩
  · simp [go_sem, z.f0]
  · simp [go_sem, z.f1]
  · exact (World.cell?_setCell_other _ _ _ _ (by simp)).trans (World.cell?_setCell_same _ _ _ z.d0)
  · exact World.cell?_setCell_same _ _ _ ((World.cell?_setCell_other _ _ _ _ (by simp)).trans z.d1)
  · simp [go_sem, z.g0]
  · simp [go_sem, z.g1]
  · simpa using z.size
theorem ZT.ret {w wr : World} {h : Nat} {X Y : Int} (z : ZT w h X Y wr) :
    (wr.setCell ⟨w.heap.size, 0, none⟩ (.int .i64 X)).cell? ⟨w.heap.size, 0, none⟩ = some (.int .i64 X) ∧
    ((wr.setCell ⟨w.heap.size, 0, none⟩ (.int .i64 X)).setCell ⟨w.heap.size, 1, none⟩ (.int .i64 Y)).cell? ⟨w.heap.size, 1, none⟩ = some (.int .i64 Y) ∧
    Below w.heap.size w ((wr.setCell ⟨w.heap.size, 0, none⟩ (.int .i64 X)).setCell ⟨w.heap.size, 1, none⟩ (.int .i64 Y)) := by
  refine ⟨World.cell?_setCell_same _ _ _ z.c0, World.cell?_setCell_same _ _ _ ((World.cell?_setCell_other _ _ _ _ (by simp)).trans z.c1), belows (belows z.below (Nat.le_refl _) _) (Nat.le_refl _) _⟩

def exT (f : Int → Int) (m : List (List Int)) (i : Nat) : Int := sumF f (m.getD i [])
def exS (f : Int → Int) (m : List (List Int)) : Int := sumN (exT f m) m.length
def exA (f : Int → Int) (m : List (List Int)) : Int := if maOk m then exS f m else 0
theorem sumN_le (g : Nat → Int) (B : Int) (n : Nat) (hg : ∀ i, i < n → -B ≤ g i ∧ g i ≤ B) (k : Nat) (hk : k ≤ n) : -(B * k) ≤ sumN g k ∧ sumN g k ≤ B * k := by
  induction k with
  | zero => simp [sumN]
  | succ k ih =>
    have h1 := ih (by omega)
    have h2 := hg k (by omega)
    simp only [sumN]
    rw [show ((k + 1 : Nat) : Int) = (k : Int) + 1 by simp, Int.mul_add]
    omega
set_option maxRecDepth 100000 in
set_option maxHeartbeats 2000000 in
theorem sexcessOf (v : Value) (m : List (List Int)) (w : World) (hv : IR w v m) : Calls Try.prog 21 #[v] w (Ret w (.tuple #[.agg #[.int .i64 (exA vx m), .int .i64 (exA vy m)], .bool (maOk m)])) := by
  have hz0 := ZG.start w 28
  obtain ⟨a, cap, rfl⟩ := hv.slice
  have HG := Lib.hid (haGood_any _ m _ (hv.below hz0.below))
  have HV := Lib.hid hv
  have HZ0 := Lib.hid hz0
  clear hz0
  unfold exA
  cases hm : maOk m with
  | false =>
    rw [hm] at HG
    rw [if_neg (by simp), if_neg (by simp)]
    clear hv hm
    go_enter Try.func21, Try.ntmps21
    go_wp2_with fail
    refine (HG.out).mono ?_
    rintro e w1 ⟨rfl, hb1⟩
    have hz1 := HZ0.out.step hb1
    have HR := Lib.hid hz1
    obtain ⟨z1, z2, z3, z4, z5, z6⟩ := hz1
    clear hb1
    go_wp2_with fail
    (try simp only [Exit.inBlock, Exit.then])
    obtain ⟨d0, d2, d3⟩ := HR.out.ret (.int .i64 0) (.int .i64 0)
    refine bodyPost_ret (by simp [results, Try.results21, go_sem, d0, d2]; try rfl) rfl ?_
    exact ⟨rfl, d3⟩
  | true =>
    rw [hm] at HG
    rw [if_pos rfl, if_pos rfl]
    have h8 := maOk_le hm
    have HSQ := Lib.hid (fun i hi => maOk_seq hm i hi)
    have hbx : ∀ i, i < m.length → -32 ≤ exT vx m i ∧ exT vx m i ≤ 32 := fun i hi => by
      have h := sum_small vx vx_one (m.getD i []) (isSeq_len (maOk_seq hm i hi)) _ (Nat.le_refl _)
      rw [List.take_length] at h
      exact h
    have hby : ∀ i, i < m.length → -32 ≤ exT vy m i ∧ exT vy m i ≤ 32 := fun i hi => by
      have h := sum_small vy vy_one (m.getD i []) (isSeq_len (maOk_seq hm i hi)) _ (Nat.le_refl _)
      rw [List.take_length] at h
      exact h
    have HBX := Lib.hid hbx
    have HBY := Lib.hid hby
    unfold exS
    obtain ⟨G1, hG1⟩ : ∃ G, G = exT vx m := ⟨_, rfl⟩
    obtain ⟨G2, hG2⟩ : ∃ G, G = exT vy m := ⟨_, rfl⟩
    rw [← hG1, ← hG2]
    rw [← hG1] at HBX
    rw [← hG2] at HBY
    have HG1 := Lib.hid hG1
    have HG2 := Lib.hid hG2
    clear hv hm hbx hby hG1 hG2
    go_enter Try.func21, Try.ntmps21
    go_wp2_with fail
    refine (HG.out).mono ?_
    rintro e w1 ⟨rfl, hb1⟩
    have hz1 := HZ0.out.step hb1
    have HZ1 := Lib.hid hz1
    clear hb1 hz1
    go_wp2_with fail
    go_loopw [14] (fun i wr => ∃ k : Nat, k ≤ m.length ∧ i = .int .i64 k ∧ ZT w w1.heap.size (sumN G1 k) (sumN G2 k) wr) (fun i _ => m.length - (intOf i).toNat)
    case atStart => exact ⟨0, Nat.zero_le _, rfl, ZT.start HZ1.out _⟩
    case round =>
      obtain ⟨k, hk, rfl, hz⟩ := hrel
      by_cases hlt : k < m.length
      · obtain ⟨-, b, off, u, rfl, c1, hu⟩ := (HV.out.below hz.below).at k hlt
        have hX := sumN_le G1 32 m.length HBX.out k hk
        have hY := sumN_le G2 32 m.length HBY.out k hk
        have hvx := HBX.out k hlt
        have hvy := HBY.out k hlt
        have hg1 : G1 k = sumF vx (m.getD k []) := by rw [HG1.out]; rfl
        have hg2 : G2 k = sumF vy (m.getD k []) := by rw [HG2.out]; rfl
        have hseq := HSQ.out k hlt
        obtain ⟨l, hl⟩ : ∃ l, l = m.getD k [] := ⟨_, rfl⟩
        rw [← hl] at hu hseq hg1 hg2
        have HSM := Lib.hid (fun w' (h : IS w' u l) => phSum_any u l w' h hseq)
        have HP := Lib.hid (phPlus_any (sumN G1 k) (sumN G2 k) (G1 k) (G2 k) (by omega) (by omega) (by omega) (by omega))
        rw [← hg1, ← hg2] at HSM
        rw [show sumN G1 k + G1 k = sumN G1 (k + 1) from rfl, show sumN G2 k + G2 k = sumN G2 (k + 1) from rfl] at HP
        obtain ⟨X, hXd⟩ : ∃ X, X = sumN G1 k := ⟨_, rfl⟩
        obtain ⟨Y, hYd⟩ : ∃ Y, Y = sumN G2 k := ⟨_, rfl⟩
        obtain ⟨X1, hX1⟩ : ∃ X, X = sumN G1 (k + 1) := ⟨_, rfl⟩
        obtain ⟨Y1, hY1⟩ : ∃ Y, Y = sumN G2 (k + 1) := ⟨_, rfl⟩
        obtain ⟨p, hp⟩ : ∃ p, p = G1 k := ⟨_, rfl⟩
        obtain ⟨q, hq⟩ : ∃ q, q = G2 k := ⟨_, rfl⟩
        rw [← hXd, ← hYd, ← hX1, ← hY1, ← hp, ← hq] at HP
        rw [← hp, ← hq] at HSM
        rw [← hXd, ← hYd] at hz
        have HX1 := Lib.hid hX1
        have HY1 := Lib.hid hY1
        have h0 : (0 : Int) ≤ (k : Int) := by omega
        have h1 : (k : Int) < (m.length : Int) := by omega
        have hz2 := hz.drew
        have hud := hu.below (belowN (Below.refl _ _) 1)
        have ⟨z0, z1, z2, z3, z4, z5, z6, z7, z8, z9, z10⟩ := hz
        clear hX hY hXd hYd hX1 hY1 hp hq hg1 hg2 hl hvx hvy hseq
        go_wp2_with fail
        go_region_with (first
          | (go_at_call 49; refine (HSM.out _ (by assumption)).mono ?_; rintro e w' ⟨rfl, hb⟩; have hz3 := ZT.step (by assumption) hb; have ⟨_, _, _, _, _, _, _, _, _, _, _⟩ := hz3)
          | (go_at_call 48; refine (HP.out _).mono ?_; rintro e w' ⟨rfl, hb⟩; have hz3 := ZT.step (by assumption) hb; have ⟨_, _, _, _, _, _, _, _, _, _, _⟩ := hz3))
        all_goals
          have hz4 := ZT.store (by assumption) X1 Y1
          have HZ := Lib.hid hz4
          clear hz4
          go_wp2_with fail
          go_roundw
          case rel => exact ⟨k + 1, by omega, by go_num, by rw [← HX1.out, ← HY1.out]; exact HZ.out⟩
          case measure => simp [intOf]; omega
      · have he : k = m.length := by omega
        subst he
        obtain ⟨X, hX⟩ : ∃ X, X = sumN G1 m.length := ⟨_, rfl⟩
        obtain ⟨Y, hY⟩ : ∃ Y, Y = sumN G2 m.length := ⟨_, rfl⟩
        rw [← hX, ← hY] at hz
        have HX := Lib.hid hX
        have HY := Lib.hid hY
        clear hX hY
        have HZ := Lib.hid hz
        obtain ⟨z0, z1, z2, z3, z4, z5, z6, z7, z8, z9, z10⟩ := hz
        go_wp2_with fail
        (try simp only [Exit.inBlock, Exit.then])
        obtain ⟨e0, e1, e2⟩ := HZ.out.ret
        refine bodyPost_ret (by simp [results, Try.results21, go_sem, e0, e1]; try rfl) rfl ?_
        exact ⟨by rw [HX.out, HY.out], e2⟩
end Go.Proofs.Ytbppbkoppbnodab
