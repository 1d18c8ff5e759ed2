/- The program's FirstPerfect. -/
import Derived.Test.YtjoepdflbbcliaaIPs
namespace Go.Proofs.Ytjoepdflbbcliaa
set_option maxRecDepth 100000
open Go.RowKit
attribute [local go_sem] Oper.semAt_some

theorem block_kept {W W' : World} {row : Option Nat} {B : Nat} {C : Array Value} {t : TypeId} {fr : Nat × Nat} (h : W.heap[B]? = some (.cells C t fr)) (hg : W.grownBy W' row) (hr : ∀ r, row = some r → ∃ o : Obj, W.heap[r]? = some o ∧ o.isCells = false) : W'.heap[B]? = some (.cells C t fr) :=
  (hg.block B (Array.getElem?_eq_some_iff.1 h).1 (fun e => by obtain ⟨o, ho, hc⟩ := hr B e.symm; rw [h] at ho; cases ho; cases hc)).trans h
theorem own_kept {W W' : World} {row : Option Nat} {B : Nat} {v : Value} {l : List Int} (h : Own W B v l) (hg : W.grownBy W' row) (hr : ∀ r, row = some r → ∃ o : Obj, W.heap[r]? = some o ∧ o.isCells = false) : Own W' B v l := by
  refine World.ownsRow.kept h hg ?_
  rcases h.2 with ⟨rfl, _⟩ | ⟨g, cap, cur, rfl, _, hgb, _⟩
  · exact .inl rfl
  · refine .inr fun e' => ?_
    obtain ⟨o, ho, hc⟩ := hr g (by simpa [Value.ownBlock] using e'.symm)
    rw [hgb] at ho; cases ho; cases hc

theorem ps_one (T : Array Value) (k : Tmp) (v : Value) : ((#[k] : Array Tmp).zip #[v]).foldl (fun t (p, v) => t.setIfInBounds p v) T = T.setIfInBounds k v := by simp

set_option maxRecDepth 100000 in
set_option maxHeartbeats 4000000 in
theorem ifirstYes (N : Nat) (h1 : 1 ≤ N) (hN : N ≤ 8) (w : World) : Calls Try.prog 22 #[.int .i64 N] w (MakesB w (pcF N) (pcFok N)) := by
  have hs8 : small8 N = true := by unfold small8; rw [decide_eq_true (by omega)]
  have hb1 : ∀ r t, pcH N = r :: t → pcF N = lowD r N ∧ pcFok N = true := fun r t h => by
    have e : pcFok N = true := by unfold pcFok; rw [hs8, Int.toNat_natCast, h]; simp
    exact ⟨by unfold pcF; rw [e, Int.toNat_natCast, h]; rfl, e⟩
  have hb2 : pcH N = [] → pcF N = [] ∧ pcFok N = false := fun h => by
    have e : pcFok N = false := by unfold pcFok; rw [hs8, Int.toNat_natCast, h]; simp
    exact ⟨by unfold pcF; rw [e]; rfl, e⟩
  have hb3 : ∀ k x, k < pow4' N → rkL (pcB N) (k + 1) = [x] → pcF N = lowD x N ∧ pcFok N = true := fun k x hk h => by
    obtain ⟨t', ht⟩ := rkL_head (pcB N) (pow4' N - (k + 1)) (k + 1) x [] h
    rw [show k + 1 + (pow4' N - (k + 1)) = pow4' N by omega] at ht
    exact hb1 x t' ht
  have HB2 := Lib.hid hb2
  have HB3 := Lib.hid hb3
  have HA := Lib.hid (fun w => perfectSeqs_any N w)
  have HQ := Lib.hid (fun Bs Bw Bn S h1 h2 h3 w hS c1 c2 c3 => perfectOf1 2 (by omega) N hN Bs Bw Bn S h1 h2 h3 w hS c1 c2 c3)
  have HL := Lib.hid (fun (x : Nat) w' => show Calls Try.prog 42 #[.agg (pcD N x)] w' (Makes w' (lowD x N)) by
    have := list_any (padL (lowD x N)) N (padL_length (by rw [lowD_length]; omega)) (by omega) w'
    rwa [show (padL (lowD x N)).take N = lowD x N from by have h := pad_take (lowD x N); rwa [lowD_length] at h] at this)
  have HSZ := Lib.hid (fun k => show (pcD N k).size = 33 from phA_size _ _ (padL_length (by rw [lowD_length]; omega)))
  have HONE := Lib.hid (fun k => show (pcD N k).all (·.oneCell') = true from phA_one _ _)
  have e1 : (1 : Int) ≤ (N : Int) := by omega
  have e8 : (N : Int) ≤ 8 := by omega
  obtain ⟨RF, hRF⟩ : ∃ R, R = pcF N := ⟨_, rfl⟩
  obtain ⟨RO, hRO⟩ : ∃ R, R = pcFok N := ⟨_, rfl⟩
  rw [← hRF, ← hRO] at HB2 HB3 ⊢
  clear hRF hRO hb1 hb2 hb3 hs8
  refine (callsIn_wide (n := 3)).1 ?_
  refine callsIn_of_wp_marks Try.func22 rfl trivial ?_ rfl
  simp only [Try.ntmps22, List.size_toArray, List.length_cons, List.length_nil, Nat.reduceAdd, Nat.reduceSub, Array.replicate_succ, Array.replicate_zero, List.push_toArray, List.append_toArray, List.nil_append, List.cons_append]
  gi_wp2_with fail
  refine ⟨trivial, (callsIn_wide.2 (HA.out _)).mono ?_⟩
  rintro e w1 ⟨Bs, Bw, Bn, rfl, g1, g2, g3, c1, c2, c3, hb⟩
  have bR := Boxed.new w 22 (.slice none 0 0)
  have bO := Boxed.new (w.alloc (.cells #[.slice none 0 0] 22)) 4 (.bool false)
  rw [World.size_alloc] at bO
  have bR1 : Boxed w1 w.heap.size 22 (.slice none 0 0) := (hb.block w.heap.size (by simp; omega)).trans (bR.alloc _)
  have bO1 : Boxed w1 (w.heap.size + 1) 4 (.bool false) := (hb.block (w.heap.size + 1) (by simp)).trans bO
  have hsz : w.heap.size + 2 ≤ w1.heap.size := by have := hb.size; simpa using this
  have hB1 : Below w.heap.size w w1 := joins (belowa (belowa (Below.refl _ _) _) _) hb
  clear hb bR bO
  gi_wp2_with fail
  obtain ⟨S, hS⟩ : ∃ S : Nat → Prop, S = fun k => k = Bs ∨ k = Bw ∨ k = Bn := ⟨_, rfl⟩
  have hlt : ∀ k, S k → k < w1.heap.size := fun k hk => by rw [hS] at hk; rcases hk with rfl | rfl | rfl <;> omega
  have s1 : S Bs := by rw [hS]; exact .inl rfl
  have s2 : S Bw := by rw [hS]; exact .inr (.inl rfl)
  have s3 : S Bn := by rw [hS]; exact .inr (.inr rfl)
  have hq := Lib.hid (HQ.out Bs Bw Bn S s1 s2 s3 w1 hlt c1 c2 c3)
  clear hS c1 c2 c3
  refine wpIn_rangeFunc_ownH rfl (by omega) (gf := 70) (lb := #[.pointer (some ⟨Bs, 0, none⟩), .pointer (some ⟨Bw, 0, none⟩)]) rfl trivial (enters_of Try.func70 (by kernel_rfl) rfl)
    hq.out keepS_t (keepS_b hlt) (Below.refl _ _) (fun _ => rfl)
    (fun pre W => ((pre = [] ∧ w1.heap.size ≤ W.heap.size) ∧ (Boxed W w.heap.size 22 (.slice none 0 0) ∧ Boxed W (w.heap.size + 1) 4 (.bool false))) ∧ Below w.heap.size w W)
    (fun c pre W => (∃ x v, (c = .ret ∧ pre = [x]) ∧ Boxed W w.heap.size 22 v ∧ Own W w.heap.size v (lowD x N) ∧ Boxed W (w.heap.size + 1) 4 (.bool true) ∧ ∃ pa ca, v = .slice pa (lowD x N).length ca) ∧ Below w.heap.size w W)
    (OwnFrom.and (fun s A B row hs hg hr => ⟨⟨hs.1.1, Nat.le_trans hs.1.2 hg.size⟩, block_kept hs.2.1 hg (fun r e => (hr r e).2), block_kept hs.2.2 hg (fun r e => (hr r e).2)⟩) (ownFrom_below (Nat.le_refl _) (by omega)))
    (fun c => OwnFrom.and (fun s A B row hs hg hr => by
      obtain ⟨x, v, hp, b1, o1, b2, hv⟩ := hs
      exact ⟨x, v, hp, block_kept b1 hg (fun r e => (hr r e).2), own_kept o1 hg (fun r e => (hr r e).2), block_kept b2 hg (fun r e => (hr r e).2), hv⟩) (ownFrom_below (Nat.le_refl _) (by omega)))
    ⟨⟨⟨rfl, Nat.le_refl _⟩, bR1, bO1⟩, hB1⟩
    (fun x a' W => ∃ Bx, w1.heap.size ≤ Bx ∧ W.heap[Bx]? = some (.cells (pcD N x) 47 (0, 0)) ∧ a' = { tmps := #[.int .i64 N, undef, .pointer (some ⟨w.heap.size, 0, none⟩), .pointer (some ⟨w.heap.size + 1, 0, none⟩), .pointer (some ⟨Bx, 0, none⟩), .int .i64 N, .bool (decide ((N : Int) < 1)), .bool (decide ((N : Int) < 1)), .int .i64 N, .bool (decide (8 < (N : Int))), .bool (decide ((N : Int) < 1) || decide (8 < (N : Int))), .int .i64 N, .func (.func 70) #[] #[.pointer (some ⟨Bs, 0, none⟩), .pointer (some ⟨Bw, 0, none⟩)], .agg (pcD N x), undef, undef], defers := [] })
    (fun x a' s A B row hs hg hr => by
      obtain ⟨Bx, hBx, hb, ha⟩ := hs
      exact ⟨Bx, hBx, block_kept hb hg (fun r e => (hr r e).2), ha⟩)
    ?assign ?body ?done ?stop
  case assign =>
    rintro l pre x W K ⟨⟨⟨rfl, hw1⟩, b1, b2⟩, hB⟩ hK
    have HS := Lib.hid (HSZ.out x)
    have HO := Lib.hid (HONE.out x)
    have HKK := Lib.hid hK
    have HB := Lib.hid hB
    have HB1 := Lib.hid b1
    have HB2 := Lib.hid b2
    obtain ⟨C, hC⟩ : ∃ C, C = pcD N x := ⟨_, rfl⟩
    rw [← hC] at HS HO HKK ⊢
    clear hC hK hB b1 b2
    simp only [ps_one, List.setIfInBounds_toArray, List.set_cons_succ, List.set_cons_zero]
    gi_wp2_with (first
      | (refine inAlloc rfl 47 rfl (phA z32 0) zeroPh ?_)
      | (refine inStoreBig rfl 47 (.tmp 4) (.tmp 13) rfl W.heap.size C rfl rfl 47 _ (heap_alloc_new W _) 33 infoPh HS.out (phA_size _ _ z32_length) HO.out W.heap.size W (belowa (Below.refl _ _) _) (Nat.le_refl _) ?_; intro w3 hg3 ho3 hz3 hb3))
    exact HKK.out _ _ ((KeepsOthers.ofBelow hb3).from _) (KeepS.below (fun k hk => Nat.lt_of_lt_of_le (hlt k hk) hw1) hb3) ⟨⟨⟨trivial, Nat.le_trans hw1 hb3.size⟩, (hb3.block _ HB1.out.lt).trans HB1.out, (hb3.block _ HB2.out.lt).trans HB2.out⟩, joins HB.out hb3⟩ ⟨W.heap.size, hw1, hg3, rfl⟩
  case body =>
    rintro l pre x a' W hl ⟨r, hr⟩ ⟨⟨⟨rfl, hw1⟩, b1, b2⟩, hB⟩ ⟨Bx, hBx, hbx, rfl⟩ hlen
    have hI1 : (Try.prog.info? 47).map (·.size) = some (pcD N x).size := by rw [HSZ.out x]; exact infoPh
    have HI1 := Lib.hid hI1
    have HLx := Lib.hid (HL.out x)
    have HBX := Lib.hid hbx
    have HB := Lib.hid hB
    have HB1 := Lib.hid b1
    have HB2 := Lib.hid b2
    obtain ⟨C, hC⟩ : ∃ C, C = pcD N x := ⟨_, rfl⟩
    rw [← hC] at HI1 HLx HBX ⊢
    clear hC hI1 hbx hB b1 b2
    gi_wp2_with (refine inLoadRow rfl 47 (.tmp 4) rfl Bx rfl 47 C (0, 0) _ HBX.out Try.underlying47 rfl HI1.out ?_)
    refine ⟨trivial, (CallsIn.inRound l (callsIn_wide.2 (HLx.out _))).mono ?_⟩
    rintro e w2 ⟨v, rfl, ho, hb2⟩
    obtain ⟨pa, ca, hve⟩ : ∃ pa ca, v = .slice pa (lowD (x : Int) N).length ca := by
      rcases ho.cases with ⟨h0, h1⟩ | ⟨g, cap, h1, _⟩
      · exact ⟨none, 0, by rw [h1, h0]; rfl⟩
      · exact ⟨_, _, h1⟩
    subst hve
    have d1 : Boxed w2 w.heap.size 22 (.slice none 0 0) := (hb2.block _ HB1.out.lt).trans HB1.out
    have d2 : Boxed w2 (w.heap.size + 1) 4 (.bool false) := (hb2.block _ HB2.out.lt).trans HB2.out
    have cc1 := d1.cell
    have cf1 := d1.frozen
    have cc2 := d2.cell
    have cf2 := d2.frozen
    have HO := Lib.hid ho
    have HBB := Lib.hid hb2
    have HD1 := Lib.hid d1
    have HD2 := Lib.hid d2
    clear ho hb2 d1 d2
    gi_wp2_with fail
    have hws := HB.out.size
    have g1 := grownBy_setCell' w2 w.heap.size (.slice pa (lowD x N).length ca)
    have g2 := grownBy_setCell' (w2.setCell ⟨w.heap.size, 0, none⟩ (.slice pa (lowD x N).length ca)) (w.heap.size + 1) (.bool true)
    have ho2 := (Own.grown HO.out g1 (fun k hk e => by cases e; have := (HO.out.lt _ hk).1; omega)).grown g2 (fun k hk e => by cases e; have := (HO.out.lt _ hk).1; omega)
    refine ⟨?_, ⟨x, _, ⟨rfl, by simp⟩, (HD1.out.set _).other (by omega) _, Own.mono ho2 (by omega), (HD2.out.other (by omega) _).set _, _, _, rfl⟩, ?_⟩
    · exact (((KeepsOthers.ofBelow HBB.out).trans (KeepsOthers.setCell _ _ _)).trans (KeepsOthers.setCell _ _ _)).from _
    · exact ((joins HB.out HBB.out).setCell (p := ⟨w.heap.size, 0, none⟩) (Nat.le_refl _) _).setCell (p := ⟨w.heap.size + 1, 0, none⟩) (by simp) _
  case done =>
    rintro D xs W hD rfl ⟨⟨⟨he, hw1⟩, b1, b2⟩, hB⟩ hK
    obtain ⟨f1, f2⟩ := HB2.out he
    have F1 := Lib.hid f1
    have F2 := Lib.hid f2
    have cc1 := b1.cell
    have cf1 := b1.frozen
    have cc2 := b2.cell
    have cf2 := b2.frozen
    clear f1 f2
    gi_wp2_with fail
    have hK2 := ((KeepsOthers.setCell W ⟨w.heap.size, 0, none⟩ (.slice none 0 0)).trans (KeepsOthers.setCell _ ⟨w.heap.size + 1, 0, none⟩ (.bool false))).same D _ hK rfl
    have h1 := (b1.set (.slice none 0 0)).other (B' := w.heap.size + 1) (by omega) (.bool false)
    have h2 := (b2.other (B' := w.heap.size) (by omega) (.slice none 0 0)).set (.bool false)
    have hb3 := (hB.setCell (p := ⟨w.heap.size, 0, none⟩) (Nat.le_refl _) (.slice none 0 0)).setCell (p := ⟨w.heap.size + 1, 0, none⟩) (by simp) (.bool false)
    refine ⟨by simp, .inl ⟨_, _, rfl, run_takeDeferred hK2, ?_⟩⟩
    have k1 := cell_kept h1.cell (grownBy_putObj' _ D (.deferred none)) (fun r e => by cases e; exact ⟨_, hK2, rfl⟩)
    have k2 := cell_kept h2.cell (grownBy_putObj' _ D (.deferred none)) (fun r e => by cases e; exact ⟨_, hK2, rfl⟩)
    refine ⟨.tuple #[.slice none 0 0, .bool false], ?_, .slice none 0 0, by rw [F2.out], by rw [F1.out]; exact World.ownsRow_nil _ _ _ _, hb3.trans (belowK_b (w := w) (Nat.le_refl _) _ D _ _ (by omega) hK2 rfl rfl)⟩
    simp [results, Try.f22, go_sem, k1, k2]
  case stop =>
    rintro D c pre W hD ⟨k, hk, _, hpre⟩ ⟨⟨x, v, ⟨rfl, rfl⟩, b1, o1, b2, pa, ca, rfl⟩, hB⟩ hK
    obtain ⟨f1, f2⟩ := HB3.out k x hk hpre.symm
    have F1 := Lib.hid f1
    have F2 := Lib.hid f2
    clear f1 f2
    gi_wp2_with fail
    refine ⟨by simp, .inl ⟨_, _, rfl, run_takeDeferred hK, ?_⟩⟩
    have hg := grownBy_putObj' W D (.deferred none)
    have hr : ∀ r, some D = some r → ∃ o : Obj, W.heap[r]? = some o ∧ o.isCells = false := fun r e => by cases e; exact ⟨_, hK, rfl⟩
    have k1 := cell_kept b1.cell hg hr
    have k2 := cell_kept b2.cell hg hr
    refine ⟨.tuple #[.slice pa (lowD x N).length ca, .bool true], ?_, _, by rw [F2.out], by rw [F1.out]; exact own_kept o1 hg hr, hB.trans (belowK_b (w := w) (Nat.le_refl _) _ D _ _ (by omega) hK rfl rfl)⟩
    simp [results, Try.f22, go_sem, k1, k2]

set_option maxRecDepth 100000 in
set_option maxHeartbeats 1000000 in
theorem ifirstPerfect (n : Int) (w : World) : Calls Try.prog 22 #[.int .i64 n] w (MakesB w (pcF n) (pcFok n)) := by
  by_cases hn : 1 ≤ n ∧ n ≤ 8
  · obtain ⟨N, rfl⟩ := Int.eq_ofNat_of_zero_le (show 0 ≤ n by omega)
    exact ifirstYes N (by omega) (by omega) w
  · have hs2 : small8 n = false := by unfold small8; exact decide_eq_false hn
    have hb0 : pcFok n = false := by unfold pcFok; rw [hs2]; rfl
    have hb : pcF n = [] := by unfold pcF; rw [hb0]; rfl
    rw [hb, hb0]
    clear hb hb0 hs2
    have bR := Boxed.new w 22 (.slice none 0 0)
    have bO := Boxed.new (w.alloc (.cells #[.slice none 0 0] 22)) 4 (.bool false)
    rw [World.size_alloc] at bO
    have k1 := (bR.alloc (.cells #[.bool false] 4)).cell
    have k2 := bO.cell
    by_cases h1 : n < 1
    · go_enter Try.func22, Try.ntmps22
      go_wp2_with fail
      refine bodyPost_ret (v := .tuple #[.slice none 0 0, .bool false]) ?_ rfl ⟨.slice none 0 0, rfl, World.ownsRow_nil _ _ _ _, by go_grown⟩
      simp [results, Try.f22, go_sem, k1, k2]
    · have h8 : 8 < n := by omega
      go_enter Try.func22, Try.ntmps22
      go_wp2_with fail
      refine bodyPost_ret (v := .tuple #[.slice none 0 0, .bool false]) ?_ rfl ⟨.slice none 0 0, rfl, World.ownsRow_nil _ _ _ _, by go_grown⟩
      simp [results, Try.f22, go_sem, k1, k2]
end Go.Proofs.Ytjoepdflbbcliaa
