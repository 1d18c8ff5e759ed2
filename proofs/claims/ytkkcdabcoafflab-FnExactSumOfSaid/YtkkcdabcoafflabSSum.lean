/- SumOf: the model's. -/
import Derived.Test.YtkkcdabcoafflabSum
namespace Go.Proofs.Ytkkcdabcoafflab
open Go.RowKit

set_option maxHeartbeats 1000000 in
theorem phValue_any (k : Int) (h1 : 0 ≤ k) (h2 : k ≤ 3) (w : World) : Calls Try.prog 62 #[.int .i64 k] w (Ret w (.agg #[.int .i64 (vx k), .int .i64 (vy k)])) := by
  have hk : k = 0 ∨ k = 1 ∨ k = 2 ∨ k = 3 := by omega
  rcases hk with rfl | rfl | rfl | rfl
  all_goals
    clear h1 h2
    go_enter Try.func62, Try.ntmps62
    go_wp2
    go_returns
    exact ⟨rfl, by go_grown⟩

set_option maxHeartbeats 1000000 in
theorem phPlus_any (X Y a b : Int) (h1 : -2000000 ≤ X ∧ X ≤ 2000000) (h2 : -2000000 ≤ Y ∧ Y ≤ 2000000) (h3 : -2000000 ≤ a ∧ a ≤ 2000000) (h4 : -2000000 ≤ b ∧ b ≤ 2000000) (w : World) : Calls Try.prog 61 #[.agg #[.int .i64 X, .int .i64 Y], .agg #[.int .i64 a, .int .i64 b]] w (Ret w (.agg #[.int .i64 (X + a), .int .i64 (Y + b)])) := by
  obtain ⟨h11, h12⟩ := h1
  obtain ⟨h21, h22⟩ := h2
  obtain ⟨h31, h32⟩ := h3
  obtain ⟨h41, h42⟩ := h4
  go_enter Try.func61, Try.ntmps61
  go_wp2
  go_returns
  exact ⟨rfl, by go_grown⟩

/-- Two zero Gauss blocks of the call, the second of which holds a sum. -/
structure ZS (w : World) (X Y : Int) (wr : World) : Prop where
  below : Below w.heap.size w wr
  c0 : wr.cell? ⟨w.heap.size, 0, none⟩ = some (.int .i64 0)
  c1 : wr.cell? ⟨w.heap.size, 1, none⟩ = some (.int .i64 0)
  f0 : wr.frozen? ⟨w.heap.size, 0, none⟩ = false
  f1 : wr.frozen? ⟨w.heap.size, 1, none⟩ = false
  d0 : wr.cell? ⟨w.heap.size + 1, 0, none⟩ = some (.int .i64 X)
  d1 : wr.cell? ⟨w.heap.size + 1, 1, none⟩ = some (.int .i64 Y)
  g0 : wr.frozen? ⟨w.heap.size + 1, 0, none⟩ = false
  g1 : wr.frozen? ⟨w.heap.size + 1, 1, none⟩ = false
  size : w.heap.size + 1 < wr.heap.size
theorem ZS.step {w wr w' : World} {X Y : Int} (h : ZS w X Y wr) (hb : Below wr.heap.size wr w') : ZS w X Y w' :=
  ⟨joins h.below hb, keepc hb h.c0, keepc hb h.c1, (hb.frozen (p := ⟨w.heap.size, 0, none⟩) (by have := h.size; simp; omega)).trans h.f0, (hb.frozen (p := ⟨w.heap.size, 1, none⟩) (by have := h.size; simp; omega)).trans h.f1,
   keepc hb h.d0, keepc hb h.d1, (hb.frozen (p := ⟨w.heap.size + 1, 0, none⟩) h.size).trans h.g0, (hb.frozen (p := ⟨w.heap.size + 1, 1, none⟩) h.size).trans h.g1, Nat.lt_of_lt_of_le h.size hb.size⟩
theorem ZS.drew {w wr : World} {X Y : Int} (h : ZS w X Y wr) : ZS w X Y wr.drew :=
  ⟨belowN h.below 1, h.c0, h.c1, h.f0, h.f1, h.d0, h.d1, h.g0, h.g1, h.size⟩

theorem ZS.start (w : World) (T : TypeId) : ZS w 0 0 ((w.alloc (.cells #[.int .i64 0, .int .i64 0] T)).alloc (.cells #[.int .i64 0, .int .i64 0] T)) := by
  have h := ZG.start w T
  have hb : Below (w.alloc (.cells #[.int .i64 0, .int .i64 0] T)).heap.size (w.alloc (.cells #[.int .i64 0, .int .i64 0] T)) ((w.alloc (.cells #[.int .i64 0, .int .i64 0] T)).alloc (.cells #[.int .i64 0, .int .i64 0] T)) := belowa (Below.refl _ _) _
  have h' := h.step hb
  have e : (w.alloc (.cells #[.int .i64 0, .int .i64 0] T)).heap.size = w.heap.size + 1 := by simp
  refine ⟨h'.below, h'.c0, h'.c1, h'.f0, h'.f1, ?_, ?_, ?_, ?_, by simp⟩
  · rw [← e]; exact cell_new0 _ _ _ _
  · rw [← e]; exact cell_new1 _ _ _ _
  · rw [← e]; exact World.frozen?_alloc_new ..
  · rw [← e]; exact World.frozen?_alloc_new ..
theorem ZS.store {w wr : World} {X Y : Int} (h : ZS w X Y wr) (X1 Y1 : Int) : ZS w X1 Y1 ((wr.setCell ⟨w.heap.size + 1, 0, none⟩ (.int .i64 X1)).setCell ⟨w.heap.size + 1, 1, none⟩ (.int .i64 Y1)) := by
  refine ⟨belows (belows h.below (Nat.le_succ _) _) (Nat.le_succ _) _, keeps (keeps h.c0 (by simp)) (by simp), keeps (keeps h.c1 (by simp)) (by simp), ?_, ?_, ?_, ?_, ?_, ?_, ?_⟩
  · simp [go_sem, h.f0]
  · simp [go_sem, h.f1]
  · exact (World.cell?_setCell_other _ _ _ _ (by simp)).trans (World.cell?_setCell_same _ _ _ h.d0)
  · exact World.cell?_setCell_same _ _ _ ((World.cell?_setCell_other _ _ _ _ (by simp)).trans h.d1)
  · simp [go_sem, h.g0]
  · simp [go_sem, h.g1]
  · simpa using h.size
theorem ZS.ret {w wr : World} {X Y : Int} (h : ZS w X Y wr) :
    (wr.setCell ⟨w.heap.size, 0, none⟩ (.int .i64 X)).cell? ⟨w.heap.size, 0, none⟩ = some (.int .i64 X) ∧
    ((wr.setCell ⟨w.heap.size, 0, none⟩ (.int .i64 X)).setCell ⟨w.heap.size, 1, none⟩ (.int .i64 Y)).cell? ⟨w.heap.size, 1, none⟩ = some (.int .i64 Y) ∧
    Below w.heap.size w ((wr.setCell ⟨w.heap.size, 0, none⟩ (.int .i64 X)).setCell ⟨w.heap.size, 1, none⟩ (.int .i64 Y)) := by
  refine ⟨World.cell?_setCell_same _ _ _ h.c0, World.cell?_setCell_same _ _ _ ((World.cell?_setCell_other _ _ _ _ (by simp)).trans h.c1), belows (belows h.below (Nat.le_refl _) _) (Nat.le_refl _) _⟩

set_option maxHeartbeats 1000000 in
theorem phSum_any (v : Value) (l : List Int) (w : World) (hv : IS w v l) (hs : isSeq l = true) : Calls Try.prog 38 #[v] w (Ret w (.agg #[.int .i64 (sumF vx l), .int .i64 (sumF vy l)])) := by
  have h32 := isSeq_len hs
  have hvv := hv
  obtain ⟨a, cap, rfl⟩ : ∃ a cap, v = .slice a l.length cap := by
    rcases hv with ⟨rfl, a, cap, rfl⟩ | ⟨_, b, off, cap, rfl, _⟩ <;> exact ⟨_, _, rfl⟩
  have HV := Lib.hid hvv
  have HS := Lib.hid hs
  clear hvv hv hs
  go_enter Try.func38, Try.ntmps38
  go_wp2_with fail
  go_loopw [9] (fun i wr => ∃ k : Nat, k ≤ l.length ∧ i = .int .i64 k ∧ ZS w (sumF vx (l.take k)) (sumF vy (l.take k)) wr) (fun i _ => l.length - (intOf i).toNat)
  case atStart =>
    exact ⟨0, Nat.zero_le _, rfl, ZS.start w _⟩
  case round =>
    obtain ⟨k, hk, rfl, hz⟩ := hrel
    by_cases hlt : k < l.length
    · rcases (HV.out.below hz.below) with ⟨h0, _⟩ | ⟨_, b, off, cap', hveq, _, hc⟩
      · rw [h0] at hlt; exact absurd hlt (Nat.not_lt_zero _)
      · simp only [Value.slice.injEq] at hveq
        obtain ⟨rfl, _, rfl⟩ := hveq
        have c1 := hc k hlt
        clear hc
        have hX := sum_small vx vx_one l h32 k hk
        have hY := sum_small vy vy_one l h32 k hk
        have hx2 := allIn_getD (isSeq_all HS.out) k hlt
        have hsx := sumF_take_succ vx l k hlt
        have hsy := sumF_take_succ vy l k hlt
        obtain ⟨x, hx⟩ : ∃ x, x = l.getD k 0 := ⟨_, rfl⟩
        rw [← hx] at c1 hx2 hsx hsy
        have HVO := Lib.hid (phValue_any x hx2.1 hx2.2)
        have hvx := vx_one x
        have hvy := vy_one x
        clear hx hx2
        have HP := Lib.hid (phPlus_any (sumF vx (l.take k)) (sumF vy (l.take k)) (vx x) (vy x) (by omega) (by omega) (by omega) (by omega))
        rw [← hsx, ← hsy] at HP
        clear hsx hsy hX hY hvx hvy
        obtain ⟨X, hX⟩ : ∃ X, X = sumF vx (l.take k) := ⟨_, rfl⟩
        obtain ⟨Y, hY⟩ : ∃ Y, Y = sumF vy (l.take k) := ⟨_, rfl⟩
        obtain ⟨X1, hX1⟩ : ∃ X, X = sumF vx (l.take (k + 1)) := ⟨_, rfl⟩
        obtain ⟨Y1, hY1⟩ : ∃ Y, Y = sumF vy (l.take (k + 1)) := ⟨_, rfl⟩
        obtain ⟨p, hp⟩ : ∃ p, p = vx x := ⟨_, rfl⟩
        obtain ⟨q, hq⟩ : ∃ q, q = vy x := ⟨_, rfl⟩
        rw [← hX, ← hY, ← hX1, ← hY1, ← hp, ← hq] at HP
        rw [← hp, ← hq] at HVO
        rw [← hX, ← hY] at hz
        have HX1 := Lib.hid hX1
        have HY1 := Lib.hid hY1
        clear hX hY hX1 hY1 hp hq
        have h0 : (0 : Int) ≤ (k : Int) := by omega
        have h1 : (k : Int) < (l.length : Int) := by omega
        have hz2 := hz.drew
        have ⟨z0, z1, z2, z3, z4, z5, z6, z7, z8, z9⟩ := hz
        go_wp2_with fail
        go_region_with (first
          | (go_at_call 62; refine (HVO.out _).mono ?_; rintro e w' ⟨rfl, hb⟩; have hz3 := ZS.step (by assumption) hb; have ⟨_, _, _, _, _, _, _, _, _, _⟩ := hz3)
          | (go_at_call 61; refine (HP.out _).mono ?_; rintro e w' ⟨rfl, hb⟩; have hz3 := ZS.step (by assumption) hb; have ⟨_, _, _, _, _, _, _, _, _, _⟩ := hz3))
        all_goals
          have hz4 := ZS.store (by assumption) X1 Y1
          have HZ := Lib.hid hz4
          clear hz4
          go_wp2_with fail
          go_round
          case rel => exact ⟨k + 1, by omega, by go_num, by rw [← HX1.out, ← HY1.out]; exact HZ.out⟩
          case measure => simp [intOf]; omega
    · rw [List.take_of_length_le (by omega : l.length ≤ k)] at hz
      obtain ⟨X, hX⟩ : ∃ X, X = sumF vx l := ⟨_, rfl⟩
      obtain ⟨Y, hY⟩ : ∃ Y, Y = sumF vy l := ⟨_, rfl⟩
      rw [← hX, ← hY] at hz
      have HX := Lib.hid hX
      have HY := Lib.hid hY
      clear hX hY
      have HZ := Lib.hid hz
      obtain ⟨z0, z1, z2, z3, z4, z5, z6, z7, z8, z9⟩ := hz
      go_wp2_with fail
      (try simp only [Exit.inBlock, Exit.then])
      obtain ⟨e0, e1, e2⟩ := HZ.out.ret
      refine bodyPost_ret (by simp [results, Try.results38, go_sem, e0, e1]; try rfl) rfl ?_
      exact ⟨by rw [HX.out, HY.out], e2⟩

set_option maxHeartbeats 1000000 in
theorem ssumOf (v : Value) (l : List Int) (w : World) (hv : IS w v l) (hl : l.length ≤ 1048576) : Calls Try.prog 18 #[v] w (Ret w (.tuple #[.agg #[.int .i64 (sumX l), .int .i64 (sumY l)], .bool (isSeq l)])) := by
  have hz0 := ZG.start w 30
  by_cases hs : isSeq l = true
  · have e1 : sumX l = sumF vx l := if_pos hs
    have e2 : sumY l = sumF vy l := if_pos hs
    rw [e1, e2, hs]
    clear e1 e2
    have hvv := hv
    obtain ⟨a, cap, rfl⟩ : ∃ a cap, v = .slice a l.length cap := by
      rcases hv with ⟨rfl, a, cap, rfl⟩ | ⟨_, b, off, cap, rfl, _⟩ <;> exact ⟨_, _, rfl⟩
    go_enter Try.func18, Try.ntmps18
    go_wp2_with fail
    refine (phIs_any _ l _ (hvv.step hz0) hl).mono ?_
    rintro e w1 ⟨rfl, hb1⟩
    have hz1 := hz0.step hb1
    rw [hs]
    have HV := Lib.hid hvv
    have HS := Lib.hid hs
    clear hvv hv hs hb1 hz0
    go_wp2_with fail
    refine (phSum_any _ l _ (HV.out.step hz1) HS.out).mono ?_
    rintro e w2 ⟨rfl, hb2⟩
    have hz2 := hz1.step hb2
    have HR := Lib.hid hz2
    obtain ⟨z1, z2, z3, z4, z5, z6⟩ := hz2
    clear hz1 hb2
    obtain ⟨X, hX⟩ : ∃ X, X = sumF vx l := ⟨_, rfl⟩
    obtain ⟨Y, hY⟩ : ∃ Y, Y = sumF vy l := ⟨_, rfl⟩
    rw [← hX, ← hY]
    have HX := Lib.hid hX
    have HY := Lib.hid hY
    clear hX hY
    go_wp2_with fail
    (try simp only [Exit.inBlock, Exit.then])
    obtain ⟨d0, d2, d3⟩ := HR.out.ret (.int .i64 X) (.int .i64 Y)
    refine bodyPost_ret (by simp [results, Try.results18, go_sem, d0, d2]; try rfl) rfl ?_
    exact ⟨by rw [HX.out, HY.out], d3⟩
  · have hs2 : isSeq l = false := by simpa using hs
    have e1 : sumX l = 0 := by unfold sumX; rw [hs2]; rfl
    have e2 : sumY l = 0 := by unfold sumY; rw [hs2]; rfl
    rw [e1, e2, hs2]
    clear e1 e2 hs
    obtain ⟨a, cap, rfl⟩ : ∃ a cap, v = .slice a l.length cap := by
      rcases hv with ⟨rfl, a, cap, rfl⟩ | ⟨_, b, off, cap, rfl, _⟩ <;> exact ⟨_, _, rfl⟩
    go_enter Try.func18, Try.ntmps18
    go_wp2_with fail
    refine (phIs_any _ l _ (hv.step hz0) hl).mono ?_
    rintro e w1 ⟨rfl, hb1⟩
    have hz1 := hz0.step hb1
    have HR := Lib.hid hz1
    obtain ⟨z1, z2, z3, z4, z5, z6⟩ := hz1
    rw [hs2]
    clear hs2 hb1 hz0
    go_wp2_with fail
    (try simp only [Exit.inBlock, Exit.then])
    obtain ⟨d0, d2, d3⟩ := HR.out.ret (.int .i64 0) (.int .i64 0)
    refine bodyPost_ret (by simp [results, Try.results18, go_sem, d0, d2]; try rfl) rfl ?_
    exact ⟨rfl, d3⟩
end Go.Proofs.Ytkkcdabcoafflab
