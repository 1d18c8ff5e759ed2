/- The model's phNorm and PowerAtRoots. -/
import Derived.Test.YtmckophclehkpaaPush
import Derived.Test.YtmckophclehkpaaSVr
import Derived.Test.YtmckophclehkpaaIPow
namespace Go.Proofs.Ytmckophclehkpaa
open Go.RowKit

theorem sq_small (X : Int) (h1 : -32 ≤ X) (h2 : X ≤ 32) : 0 ≤ X * X ∧ X * X ≤ 1024 := by
  have h : X.natAbs ≤ 32 := by omega
  have := Nat.mul_le_mul h h
  have e : X * X = ((X.natAbs * X.natAbs : Nat) : Int) := by rw [Int.natCast_mul, Int.natAbs_mul_self']
  rw [e]; omega
set_option maxHeartbeats 400000 in
theorem phNorm_any (X Y : Int) (h1 : -32 ≤ X) (h2 : X ≤ 32) (h3 : -32 ≤ Y) (h4 : Y ≤ 32) (w : World) : Calls Try.prog 48 #[.agg #[.int .i64 X, .int .i64 Y]] w (Ret w (.int .i64 (norm X Y))) := by
  have a := sq_small X h1 h2
  have b := sq_small Y h3 h4
  obtain ⟨a1, a2⟩ := a
  obtain ⟨b1, b2⟩ := b
  unfold norm
  go_enter Try.func48, Try.ntmps48
  go_wp2
  go_returns
  exact ⟨rfl, by go_grown⟩

set_option maxRecDepth 100000 in
set_option maxHeartbeats 2000000 in
theorem spowers (va : Value) (a : List Int) (w : World) (hva : IS w va a) (hla : a.length ≤ 1048576) :
    Calls Try.prog 29 #[va] w (MakesB w (powF a) (isSeq a)) := by
  have HI := phIs_any _ a _ hva hla
  have HCR : isSeq a = true → ∀ k : Nat, k < 4 → ∀ w', IS w' va a → Calls Try.prog 46 #[va, .int .i64 k] w' (Ret w' (.agg #[.int .i64 (vrS vx a k), .int .i64 (vrS vy a k)])) := fun h0 k h1 w' hz => crValue_any _ a k w' hz h0 (by omega) (by omega)
  have HNO : isSeq a = true → ∀ k : Nat, k < 4 → ∀ w, Calls Try.prog 48 #[.agg #[.int .i64 (vrS vx a k), .int .i64 (vrS vy a k)]] w (Ret w (.int .i64 (norm (vrS vx a k) (vrS vy a k)))) := fun h0 k _ w => by
    have h32 := isSeq_len h0
    have sX := vrS_small vx vx_one a k h32
    have sY := vrS_small vy vy_one a k h32
    exact phNorm_any _ _ sX.1 sX.2 sY.1 sY.2 w
  obtain ⟨X, hX⟩ : ∃ F : Nat → Int, F = fun k : Nat => vrS vx a k := ⟨_, rfl⟩
  obtain ⟨Y, hY⟩ : ∃ F : Nat → Int, F = fun k : Nat => vrS vy a k := ⟨_, rfl⟩
  obtain ⟨G, hG⟩ : ∃ F : Nat → Int, F = fun k : Nat => norm (vrS vx a k) (vrS vy a k) := ⟨_, rfl⟩
  have HCR2 : isSeq a = true → ∀ k : Nat, k < 4 → ∀ w', IS w' va a → Calls Try.prog 46 #[va, .int .i64 k] w' (Ret w' (.agg #[.int .i64 (X k), .int .i64 (Y k)])) := fun h0 k h1 w' hz => by rw [hX, hY]; exact HCR h0 k h1 w' hz
  have HNO2 : isSeq a = true → ∀ k : Nat, k < 4 → ∀ w, Calls Try.prog 48 #[.agg #[.int .i64 (X k), .int .i64 (Y k)]] w (Ret w (.int .i64 (G k))) := fun h0 k h1 w => by rw [hX, hY, hG]; exact HNO h0 k h1 w
  have e1 : powF a = if isSeq a then gen 4 G else [] := by unfold powF powG; rw [hG]
  rw [e1]
  obtain ⟨sa, hsq⟩ : ∃ s, s = isSeq a := ⟨_, rfl⟩
  rw [← hsq] at HCR2 HNO2 HI ⊢
  have HI' := Lib.hid HI
  have HCR' := Lib.hid HCR2
  have HNO' := Lib.hid HNO2
  have HV := Lib.hid hva
  clear HI HCR HCR2 HNO HNO2 hX hY hG e1 hsq hla hva
  cases sa with
  | false =>
    rw [if_neg (by decide)]
    go_enter Try.func29, Try.ntmps29
    go_wp2_with fail
    refine (HI'.out).mono ?_
    rintro e w1 ⟨rfl, hb1⟩
    go_wp2_with fail
    go_returns
    exact ⟨_, rfl, World.ownsRow_nil _ _ _ _, hb1⟩
  | true =>
    rw [if_pos rfl]
    go_enter Try.func29, Try.ntmps29
    go_wp2_with fail
    refine (HI'.out).mono ?_
    rintro e w1 ⟨rfl, hb1⟩
    have HB1 := Lib.hid hb1
    clear hb1
    go_wp2_with fail
    go_loopw [5, 4] (fun i o wr => ∃ j : Nat, j ≤ 4 ∧ i = .int .i64 j ∧ Own wr w.heap.size o (gen j G) ∧ Below w.heap.size w wr) (fun i _ _ => 4 - (intOf i).toNat)
    case atStart => exact ⟨0, Nat.zero_le _, rfl, World.ownsRow_nil _ _ _ _, HB1.out⟩
    case round =>
      obtain ⟨j, hj, rfl, hown, hbel⟩ := hrel
      have HO := Lib.hid hown
      have HB := Lib.hid hbel
      clear hown hbel
      by_cases hlt : j < 4
      · have h0 : (0 : Int) ≤ (j : Int) := by omega
        have h1 : (j : Int) < 4 := by omega
        have HCj := Lib.hid (HCR'.out (by trivial) j hlt)
        have HNj := Lib.hid (HNO'.out (by trivial) j hlt)
        have hgl : (gen j G).length ≤ 1048576 := by rw [gen_length]; omega
        have hgs := gen_succ j G
        obtain ⟨x, hx⟩ : ∃ x, x = X j := ⟨_, rfl⟩
        obtain ⟨y, hy⟩ : ∃ y, y = Y j := ⟨_, rfl⟩
        obtain ⟨g, hg⟩ : ∃ g, g = G j := ⟨_, rfl⟩
        rw [← hx, ← hy] at HCj HNj
        rw [← hg] at HNj hgs
        have HGS := Lib.hid hgs
        have HGL := Lib.hid hgl
        clear hx hy hg hgs hgl
        go_wp2_with fail
        refine (HCj.out _ (HV.out.below HB.out)).mono ?_
        rintro e w2 ⟨rfl, hb2⟩
        go_wp2_with fail
        refine (HNj.out _).mono ?_
        rintro e w3 ⟨rfl, hb3⟩
        have hb := joins hb2 hb3
        have HO3 := Lib.hid (HO.out.below hb)
        have HB3 := Lib.hid (joins HB.out hb)
        clear hb hb2 hb3
        go_wp2_with (first
          | (at_builtin; refine wpList_push rfl _ _ rfl w.heap.size _ (gen j G) rfl (HO3.out.alloc _) w3.heap.size 1 g rfl (by simp) HGL.out w.heap.size w (HB3.out.alloc HB3.out.size _) (Nat.le_refl _) (by have := HB3.out.size; simp; omega) (by have := HB3.out.size; simp; omega) ?_; intro v4 w4 ho4 hb4))
        go_roundw
        case rel => exact ⟨j + 1, by omega, by go_num, by rw [HGS.out]; assumption, by assumption⟩
        case measure => simp [intOf]; omega
      · have he : j = 4 := by omega
        subst he
        go_wp2_with fail
        go_returns
        exact ⟨_, rfl, HO.out, HB.out⟩
end Go.Proofs.Ytmckophclehkpaa
