/- The program's AllPerfect. -/
import Derived.Test.YtjoepdflbbcliaaIPs
import Derived.Test.YtjoepdflbbcliaaIPb
import Derived.Test.YtjoepdflbbcliaaIPn
import Derived.Test.YtjoepdflbbcliaaApI
namespace Go.Proofs.Ytjoepdflbbcliaa
set_option maxRecDepth 100000
open Go.RowKit
attribute [local go_sem] Oper.semAt_some

theorem OwnR_kept {W W' : World} {row : Option Nat} {B : Nat} {v : Value} {ll : List (List Int)} (h : OwnR W B v ll) (hg : W.grownBy W' row) (hr : ∀ r, row = some r → ∃ o : Obj, W.heap[r]? = some o ∧ o.isCells = false) : OwnR W' B v ll := by
  obtain ⟨rs, h0, h1, h2⟩ := h
  refine ⟨rs, World.ownsRow.kept h0 hg ?_, ⟨h1.len, fun i hi => own_kept (h1.own i hi) hg hr, h1.apart⟩, h2⟩
  rcases h0.2 with ⟨rfl, _⟩ | ⟨g, cap, cur, rfl, _, hgb, _⟩
  · exact .inl rfl
  · refine .inr fun e' => ?_
    obtain ⟨o, ho, hc⟩ := hr g (by simpa [Value.ownBlock] using e'.symm)
    rw [hgb] at ho; cases ho; cases hc
/-- The own block of a list of lists is one of cells. -/
theorem OwnR.cells {W : World} {B k : Nat} {v : Value} {ll : List (List Int)} (h : OwnR W B v ll) (hk : v.ownBlock = some k) : ∃ C t f, W.heap[k]? = some (.cells C t f) := by
  obtain ⟨rs, h0, -, -⟩ := h
  rcases h0.2 with ⟨rfl, _⟩ | ⟨g, cap, cur, rfl, _, hgb, _⟩
  · cases hk
  · obtain rfl : g = k := by simpa [Value.ownBlock] using hk
    exact ⟨_, _, _, hgb⟩
/-- What lies between two rounds. -/
def AllI (w : World) (w1 : World) (t : TypeId) (ll : List (List Int)) (W : World) : Prop := ((∃ v, Boxed W w.heap.size t v ∧ OwnR W w1.heap.size v ll) ∧ w1.heap.size ≤ W.heap.size) ∧ Below w.heap.size w W
theorem all_own (w w1 : World) (t : TypeId) (R : List Nat → List (List Int)) (h : w.heap.size ≤ w1.heap.size) : OwnFrom w1.heap.size (fun pre W => AllI w w1 t (R pre) W) := by
  refine OwnFrom.and (fun s A B row hs hg hr => ?_) (ownFrom_below (Nat.le_refl _) h)
  obtain ⟨⟨v, hb, ho⟩, hle⟩ := hs
  exact ⟨⟨v, block_kept hb hg (fun r e => (hr r e).2), OwnR_kept ho hg (fun r e => (hr r e).2)⟩, Nat.le_trans hle hg.size⟩
/-- A round's end. -/
theorem all_round {w w1 W X c4 : World} {t : TypeId} {S : Nat → Prop} {v v4 : Value} {ll ll' L : List (List Int)} (hw1 : w1.heap.size ≤ W.heap.size) (hw : w.heap.size < w1.heap.size)
    (hS : ∀ k, S k → k < w1.heap.size ∧ k ≠ w.heap.size) (hX : Below W.heap.size W X) (hO : OwnR W w1.heap.size v ll) (hg : X.grownBy c4 v.ownBlock) (hb4 : Below w.heap.size w c4) (ho4 : OwnR c4 w1.heap.size v4 ll') (hx4 : Boxed c4 w.heap.size t v)
    (hl : L = ll') : KeepsFrom w1.heap.size W (c4.setCell ⟨w.heap.size, 0, none⟩ v4) ∧ KeepS S W (c4.setCell ⟨w.heap.size, 0, none⟩ v4) ∧ AllI w w1 t L (c4.setCell ⟨w.heap.size, 0, none⟩ v4) := by
  subst hl
  have hsz := hX.size
  have hblk : ∀ k o, W.heap[k]? = some o → v.ownBlock ≠ some k → k ≠ w.heap.size → (c4.setCell ⟨w.heap.size, 0, none⟩ v4).heap[k]? = some o := fun k o hk hv hne => by
    have hlt := (Array.getElem?_eq_some_iff.1 hk).1
    rw [heap_setCell_other _ ⟨w.heap.size, 0, none⟩ k v4 hne, hg.block k (by omega) (fun e => hv e.symm), hX.block k hlt]
    exact hk
  refine ⟨⟨by have := hg.size; simp; omega, fun k o _ hk ho => hblk k o hk (fun e => ?_) (fun e => ?_)⟩, fun k hk => ?_, ⟨⟨v4, hx4.set _, ho4.turned (grownBy_setCell' _ _ _) hw⟩, by have := hg.size; simp; omega⟩, hb4.setCell (p := ⟨w.heap.size, 0, none⟩) (Nat.le_refl _) _⟩
  · obtain ⟨C, t', f, h⟩ := hO.cells e
    rw [h] at hk; cases hk; cases ho
  · subst e
    have h1 := hX.block _ (Array.getElem?_eq_some_iff.1 hk).1
    have h2 := hg.block w.heap.size (by have := (Array.getElem?_eq_some_iff.1 hk).1; omega) (fun e => hO.ne hw e.symm)
    have h3 : c4.heap[w.heap.size]? = some (.cells #[v] t (0, 0)) := hx4
    rw [h2, h1, hk] at h3; cases h3; cases ho
  · obtain ⟨h1, h2⟩ := hS k hk
    have hlt : k < W.heap.size := by omega
    rw [Array.getElem?_eq_getElem hlt]
    exact hblk k _ (Array.getElem?_eq_getElem hlt) (hO.ne h1) h2

set_option maxRecDepth 100000 in
set_option maxHeartbeats 4000000 in
theorem iallYes (N : Nat) (h1 : 1 ≤ N) (hN : N ≤ 6) (w : World) : Calls Try.prog 17 #[.int .i64 N] w (MakesRB w ((pcH N).map (fun r : Nat => lowD (r : Int) N)) true) := by
  have HC := Lib.hid (show ∀ w, Calls Try.prog 39 #[.int .i64 N] w (Pure w (.bool true)) from fun w => by
    have := isSearched6 N w
    rwa [show small6 N = true by unfold small6; rw [decide_eq_true (by omega)]] at this)
  have HA := Lib.hid (fun w => perfectSeqs_any N w)
  have HQ := Lib.hid (fun Bs Bw Bn S h1 h2 h3 w hS c1 c2 c3 => perfectOf1 2 (by omega) N (by omega) Bs Bw Bn S h1 h2 h3 w hS c1 c2 c3)
  have HL := Lib.hid (fun (x : Nat) w' => show Calls Try.prog 42 #[.agg (pcD N x)] w' (Makes w' (lowD x N)) by
    have := list_any (padL (lowD x N)) N (padL_length (by rw [lowD_length]; omega)) (by omega) w'
    rwa [show (padL (lowD x N)).take N = lowD x N from by have h := pad_take (lowD x N); rwa [lowD_length] at h] at this)
  have HSZ := Lib.hid (fun k => show (pcD N k).size = 33 from phA_size _ _ (padL_length (by rw [lowD_length]; omega)))
  have HONE := Lib.hid (fun k => show (pcD N k).all (·.oneCell') = true from phA_one _ _)
  have hp := pow4_le' N (by omega)
  obtain ⟨R, hR⟩ : ∃ R : List Nat → List (List Int), R = fun rs => rs.map (fun r : Nat => lowD (r : Int) N) := ⟨_, rfl⟩
  have HRS := Lib.hid (fun pre (x : Nat) => show R (pre ++ [x]) = R pre ++ [lowD (x : Int) N] by rw [hR]; simp)
  have HLN := Lib.hid (fun (pre : List Nat) (h : pre.length < pow4' N) => show (R pre).length ≤ 1048576 by rw [hR]; simp; omega)
  have HNIL := Lib.hid (show R [] = [] by rw [hR]; rfl)
  rw [show (pcH N).map (fun r : Nat => lowD (r : Int) N) = R (pcH N) by rw [hR]]
  clear hR
  refine (callsIn_wide (n := 3)).1 ?_
  refine callsIn_of_wp_marks Try.func17 rfl trivial ?_ rfl
  simp only [Try.ntmps17, List.size_toArray, List.length_cons, List.length_nil, Nat.reduceAdd, Nat.reduceSub, Array.replicate_succ, Array.replicate_zero, List.push_toArray, List.append_toArray, List.nil_append, List.cons_append]
  gi_wp2_with fail
  refine ⟨trivial, (callsIn_wide.2 (HC.out _)).mono ?_⟩
  rintro e w0 ⟨rfl, rfl⟩
  gi_wp2_with fail
  refine ⟨trivial, (callsIn_wide.2 (HA.out _)).mono ?_⟩
  rintro e w1 ⟨Bs, Bw, Bn, rfl, g1, g2, g3, c1, c2, c3, hb⟩
  have bR := Boxed.new w 31 (.slice none 0 0)
  have bR1 : Boxed w1 w.heap.size 31 (.slice none 0 0) := (hb.block w.heap.size (by simp)).trans bR
  have hsz : w.heap.size < w1.heap.size := by have := hb.size; simp at this; omega
  have hB1 : Below w.heap.size w w1 := joins (belowa (Below.refl _ _) _) hb
  rw [World.size_alloc] at g1 g2 g3
  obtain ⟨S, hS⟩ : ∃ S : Nat → Prop, S = fun k => k = Bs ∨ k = Bw ∨ k = Bn := ⟨_, rfl⟩
  have hltS : ∀ k, S k → k < w1.heap.size ∧ k ≠ w.heap.size := fun k hk => by rw [hS] at hk; rcases hk with rfl | rfl | rfl <;> omega
  have hlt : ∀ k, S k → k < w1.heap.size := fun k hk => (hltS k hk).1
  have s1 : S Bs := by rw [hS]; exact .inl rfl
  have s2 : S Bw := by rw [hS]; exact .inr (.inl rfl)
  have s3 : S Bn := by rw [hS]; exact .inr (.inr rfl)
  have hq := Lib.hid (HQ.out Bs Bw Bn S s1 s2 s3 w1 hlt c1 c2 c3)
  have HW1 := Lib.hid hsz
  clear hS c1 c2 c3 hb bR g1 g2 g3
  gi_wp2_with fail
  refine wpIn_rangeFunc_ownH rfl (by omega) (gf := 70) (lb := #[.pointer (some ⟨Bs, 0, none⟩), .pointer (some ⟨Bw, 0, none⟩)]) rfl trivial (enters_of Try.func70 (by kernel_rfl) rfl)
    hq.out keepS_t (keepS_b hlt) (Below.refl _ _) (fun _ => rfl)
    (fun pre W => AllI w w1 31 (R pre) W)
    (fun _ _ _ => False)
    (all_own w w1 _ R (Nat.le_of_lt hsz))
    (fun _ _ _ _ _ hs _ _ => hs)
    ⟨⟨⟨_, bR1, by rw [HNIL.out]; exact OwnR.nil _ _⟩, Nat.le_refl _⟩, hB1⟩
    (fun x a' W => ∃ Bx, w1.heap.size ≤ Bx ∧ W.heap[Bx]? = some (.cells (pcD N x) 47 (0, 0)) ∧ a' = { tmps := #[.int .i64 N, undef, .slice none 0 0, .bool false, .pointer (some ⟨w.heap.size, 0, none⟩), .pointer (some ⟨Bx, 0, none⟩), .int .i64 N, .bool true, .bool false, .int .i64 N, .func (.func 70) #[] #[.pointer (some ⟨Bs, 0, none⟩), .pointer (some ⟨Bw, 0, none⟩)], .agg (pcD N x), undef, undef, undef, undef, undef, undef], defers := [] })
    (fun x a' s A B row hs hg hr => by
      obtain ⟨Bx, hBx, hb, ha⟩ := hs
      exact ⟨Bx, hBx, block_kept hb hg (fun r e => (hr r e).2), ha⟩)
    ?assign ?body ?done ?stop
  case assign =>
    rintro l pre x W K ⟨⟨⟨v, b1, o1⟩, hw1⟩, hB⟩ hK
    have HS := Lib.hid (HSZ.out x)
    have HO := Lib.hid (HONE.out x)
    have HKK := Lib.hid hK
    have HB := Lib.hid hB
    have HB1 := Lib.hid b1
    have HO1 := Lib.hid o1
    obtain ⟨C, hC⟩ : ∃ C, C = pcD N x := ⟨_, rfl⟩
    rw [← hC] at HS HO HKK ⊢
    clear hC hK hB b1 o1
    simp only [ps_one, List.setIfInBounds_toArray, List.set_cons_succ, List.set_cons_zero]
    gi_wp2_with (first
      | (refine inAlloc rfl 47 rfl (phA z32 0) zeroPh ?_)
      | (refine inStoreBig rfl 47 (.tmp 5) (.tmp 11) rfl W.heap.size C rfl rfl 47 _ (heap_alloc_new W _) 33 infoPh HS.out (phA_size _ _ z32_length) HO.out W.heap.size W (belowa (Below.refl _ _) _) (Nat.le_refl _) ?_; intro w3 hg3 ho3 hz3 hb3))
    exact HKK.out _ _ ((KeepsOthers.ofBelow hb3).from _) (KeepS.below (fun k hk => Nat.lt_of_lt_of_le (hlt k hk) hw1) hb3) ⟨⟨⟨v, (hb3.block _ HB1.out.lt).trans HB1.out, HO1.out.below hb3⟩, Nat.le_trans hw1 hb3.size⟩, joins HB.out hb3⟩ ⟨W.heap.size, hw1, hg3, rfl⟩
  case body =>
    rintro l pre x a' W hl ⟨r, hr⟩ ⟨⟨⟨v, b1, o1⟩, hw1⟩, hB⟩ ⟨Bx, hBx, hbx, rfl⟩ hlen
    have hI1 : (Try.prog.info? 47).map (·.size) = some (pcD N x).size := by rw [HSZ.out x]; exact infoPh
    have HI1 := Lib.hid hI1
    have HLx := Lib.hid (HL.out x)
    have HBX := Lib.hid hbx
    have HB := Lib.hid hB
    have HB1 := Lib.hid b1
    have HOW := Lib.hid o1
    have HLEN := Lib.hid (HLN.out pre hlen)
    obtain ⟨C, hC⟩ : ∃ C, C = pcD N x := ⟨_, rfl⟩
    rw [← hC] at HI1 HLx HBX ⊢
    obtain ⟨L, hL⟩ : ∃ L, L = lowD (x : Int) N := ⟨_, rfl⟩
    rw [← hL] at HLx
    have HRX := Lib.hid (show R (pre ++ [x]) = R pre ++ [L] by rw [hL]; exact HRS.out pre x)
    clear hC hI1 hbx hB b1 o1 hL hr r hl hlen
    gi_wp2_with fail
    refine wpIn_region_any (by kernel_rfl) ?_
    (try (change wpAnyIn _ _ _ _ _ _ _ _ _ (World.drew _)))
    obtain ⟨d0, hd0⟩ : ∃ d, d = W.drew := ⟨_, rfl⟩
    rw [← hd0]
    have HD0 := Lib.hid (show Below W.heap.size W d0 by rw [hd0]; exact belowN (Below.refl _ _) 1)
    clear hd0
    (try simp only [List.size_toArray, List.length_cons, List.length_nil, Nat.reduceAdd])
    refine wpAnyIn_ready (rs := [0, 1]) (by kernel_rfl) (by simp) ?_
    refine AllReadyIn.cons rfl (fun K hK => ?_) (AllReadyIn.cons rfl (fun K hK => ?_) AllReadyIn.nil)
    · have cc := (show Boxed d0 w.heap.size 31 v from (HD0.out.block _ HB1.out.lt).trans HB1.out).cell
      go_simp
      refine hK _ _ ?_
      clear hK K cc
      (try simp only [Act.put, List.getElem_toArray, List.getElem_cons_zero, List.setIfInBounds_toArray, List.set_cons_zero, List.set_cons_succ])
      refine wpAnyIn_ready (rs := [1]) (by kernel_rfl) (by simp) ?_
      refine AllReadyIn.cons rfl (fun K hK => ?_) AllReadyIn.nil
      refine stepIn_loadRow rfl 47 (.tmp 5) rfl Bx rfl 47 C (0, 0) _ ((HD0.out.block _ (Array.getElem?_eq_some_iff.1 HBX.out).1).trans HBX.out) Try.underlying47 rfl HI1.out ?_
      refine hK _ _ ?_
      clear hK K
      (try simp only [Act.put, List.getElem_toArray, List.getElem_cons_zero, List.getElem_cons_succ, List.setIfInBounds_toArray, List.set_cons_zero, List.set_cons_succ])
      refine wpAnyIn_ready (rs := [2]) (by kernel_rfl) (by simp) ?_
      refine AllReadyIn.cons rfl (fun K hK => ?_) AllReadyIn.nil
      go_simp
      refine ⟨trivial, (CallsIn.inRound l (callsIn_wide.2 (HLx.out _))).mono ?_⟩
      rintro e c3 ⟨r, rfl, ho, hb⟩
      obtain ⟨ra, rc, hre⟩ := IS.sl ho.is
      have O3 := Lib.hid (Own.mono ho HD0.out.size)
      have B3 := Lib.hid (joins HD0.out hb)
      clear ho hb
      subst hre
      refine hK _ _ ?_
      clear hK K
      (try simp only [Act.put, List.getElem_toArray, List.getElem_cons_zero, List.getElem_cons_succ, List.setIfInBounds_toArray, List.set_cons_zero, List.set_cons_succ])
      refine wpAnyIn_ready (rs := [3]) (by kernel_rfl) (by simp) ?_
      refine AllReadyIn.cons rfl (fun K hK => ?_) AllReadyIn.nil
      go_simp
      refine hK _ _ ?_
      clear hK K
      have hn := cell_new_one c3 (.slice ra L.length rc) 22
      have hb := belowa B3.out (.cells #[.slice ra L.length rc] 22)
      have ho := Own.alloc O3.out (.cells #[.slice ra L.length rc] 22)
      obtain ⟨g, hg⟩ : ∃ g, g = c3.heap.size := ⟨_, rfl⟩
      obtain ⟨c4, hc⟩ : ∃ c, c = c3.alloc (.cells #[.slice ra L.length rc] 22) := ⟨_, rfl⟩
      rw [← hc, ← hg] at hn ⊢
      rw [← hc] at hb ho
      have N4 := Lib.hid hn
      have B4 := Lib.hid hb
      have O4 := Lib.hid ho
      clear hn hb ho hc hg
      (try simp only [Act.put, List.getElem_toArray, List.getElem_cons_zero, List.getElem_cons_succ, List.setIfInBounds_toArray, List.set_cons_zero, List.set_cons_succ])
      refine wpAnyIn_ready (rs := [4]) (by kernel_rfl) (by simp) ?_
      refine AllReadyIn.cons rfl (fun K hK => ?_) AllReadyIn.nil
      refine stepIn_pushR rfl (.tmp 12) (.tmp 15) rfl w1.heap.size v (R pre) rfl W HOW.out B4.out g 1 _ L rfl N4.out O4.out HLEN.out w.heap.size w (joins HB.out B4.out) (Nat.le_of_lt HW1.out) hw1 (Nat.le_trans HB.out.size B4.out.size) ?_
      intro v4 c5 ho hb hg
      have b4 : Boxed c5 w.heap.size 31 v := (show Boxed c4 w.heap.size 31 v from (B4.out.block _ HB1.out.lt).trans HB1.out).kept hg (fun e => HOW.out.ne HW1.out e.symm)
      obtain ⟨g4, k4, hv4, _, _⟩ := ho.shape (by simp)
      subst hv4
      rw [show (R pre ++ [L]).length = (R pre).length + 1 from by simp] at ho
      have HB4 := Lib.hid hb
      have HO4 := Lib.hid ho
      have HX4 := Lib.hid b4
      have HG4 := Lib.hid hg
      clear ho hb hg b4
      refine hK _ _ ?_
      clear hK K
      (try simp only [Act.put, List.getElem_toArray, List.getElem_cons_zero, List.getElem_cons_succ, List.setIfInBounds_toArray, List.set_cons_zero, List.set_cons_succ])
      refine wpAnyIn_ready (rs := [5]) (by kernel_rfl) (by simp) ?_
      refine AllReadyIn.cons rfl (fun K hK => ?_) AllReadyIn.nil
      have cc := HX4.out.cell
      have cf := HX4.out.frozen
      go_simp
      refine hK _ _ ?_
      clear hK K cc cf
      (try simp only [Act.put])
      refine wpAnyIn_done (by kernel_rfl) ?_ _
      gi_wp2_with fail
      exact all_round hw1 HW1.out hltS B4.out HOW.out HG4.out HB4.out HO4.out HX4.out HRX.out
    · refine stepIn_loadRow rfl 47 (.tmp 5) rfl Bx rfl 47 C (0, 0) _ ((HD0.out.block _ (Array.getElem?_eq_some_iff.1 HBX.out).1).trans HBX.out) Try.underlying47 rfl HI1.out ?_
      refine hK _ _ ?_
      clear hK K
      (try simp only [Act.put, List.getElem_toArray, List.getElem_cons_zero, List.getElem_cons_succ, List.setIfInBounds_toArray, List.set_cons_zero, List.set_cons_succ])
      refine wpAnyIn_ready (rs := [0, 2]) (by kernel_rfl) (by simp) ?_
      refine AllReadyIn.cons rfl (fun K hK => ?_) (AllReadyIn.cons rfl (fun K hK => ?_) AllReadyIn.nil)
      · have cc := (show Boxed d0 w.heap.size 31 v from (HD0.out.block _ HB1.out.lt).trans HB1.out).cell
        go_simp
        refine hK _ _ ?_
        clear hK K cc
        (try simp only [Act.put, List.getElem_toArray, List.getElem_cons_zero, List.setIfInBounds_toArray, List.set_cons_zero, List.set_cons_succ])
        refine wpAnyIn_ready (rs := [2]) (by kernel_rfl) (by simp) ?_
        refine AllReadyIn.cons rfl (fun K hK => ?_) AllReadyIn.nil
        go_simp
        refine ⟨trivial, (CallsIn.inRound l (callsIn_wide.2 (HLx.out _))).mono ?_⟩
        rintro e c9 ⟨r, rfl, ho, hb⟩
        obtain ⟨ra, rc, hre⟩ := IS.sl ho.is
        have O9 := Lib.hid (Own.mono ho HD0.out.size)
        have B9 := Lib.hid (joins HD0.out hb)
        clear ho hb
        subst hre
        refine hK _ _ ?_
        clear hK K
        (try simp only [Act.put, List.getElem_toArray, List.getElem_cons_zero, List.getElem_cons_succ, List.setIfInBounds_toArray, List.set_cons_zero, List.set_cons_succ])
        refine wpAnyIn_ready (rs := [3]) (by kernel_rfl) (by simp) ?_
        refine AllReadyIn.cons rfl (fun K hK => ?_) AllReadyIn.nil
        go_simp
        refine hK _ _ ?_
        clear hK K
        have hn := cell_new_one c9 (.slice ra L.length rc) 22
        have hb := belowa B9.out (.cells #[.slice ra L.length rc] 22)
        have ho := Own.alloc O9.out (.cells #[.slice ra L.length rc] 22)
        obtain ⟨g, hg⟩ : ∃ g, g = c9.heap.size := ⟨_, rfl⟩
        obtain ⟨c10, hc⟩ : ∃ c, c = c9.alloc (.cells #[.slice ra L.length rc] 22) := ⟨_, rfl⟩
        rw [← hc, ← hg] at hn ⊢
        rw [← hc] at hb ho
        have N10 := Lib.hid hn
        have B10 := Lib.hid hb
        have O10 := Lib.hid ho
        clear hn hb ho hc hg
        (try simp only [Act.put, List.getElem_toArray, List.getElem_cons_zero, List.getElem_cons_succ, List.setIfInBounds_toArray, List.set_cons_zero, List.set_cons_succ])
        refine wpAnyIn_ready (rs := [4]) (by kernel_rfl) (by simp) ?_
        refine AllReadyIn.cons rfl (fun K hK => ?_) AllReadyIn.nil
        refine stepIn_pushR rfl (.tmp 12) (.tmp 15) rfl w1.heap.size v (R pre) rfl W HOW.out B10.out g 1 _ L rfl N10.out O10.out HLEN.out w.heap.size w (joins HB.out B10.out) (Nat.le_of_lt HW1.out) hw1 (Nat.le_trans HB.out.size B10.out.size) ?_
        intro v4 c11 ho hb hg
        have b4 : Boxed c11 w.heap.size 31 v := (show Boxed c10 w.heap.size 31 v from (B10.out.block _ HB1.out.lt).trans HB1.out).kept hg (fun e => HOW.out.ne HW1.out e.symm)
        obtain ⟨g4, k4, hv4, _, _⟩ := ho.shape (by simp)
        subst hv4
        rw [show (R pre ++ [L]).length = (R pre).length + 1 from by simp] at ho
        have HB4 := Lib.hid hb
        have HO4 := Lib.hid ho
        have HX4 := Lib.hid b4
        have HG4 := Lib.hid hg
        clear ho hb hg b4
        refine hK _ _ ?_
        clear hK K
        (try simp only [Act.put, List.getElem_toArray, List.getElem_cons_zero, List.getElem_cons_succ, List.setIfInBounds_toArray, List.set_cons_zero, List.set_cons_succ])
        refine wpAnyIn_ready (rs := [5]) (by kernel_rfl) (by simp) ?_
        refine AllReadyIn.cons rfl (fun K hK => ?_) AllReadyIn.nil
        have cc := HX4.out.cell
        have cf := HX4.out.frozen
        go_simp
        refine hK _ _ ?_
        clear hK K cc cf
        (try simp only [Act.put])
        refine wpAnyIn_done (by kernel_rfl) ?_ _
        gi_wp2_with fail
        exact all_round hw1 HW1.out hltS B10.out HOW.out HG4.out HB4.out HO4.out HX4.out HRX.out
      · go_simp
        refine ⟨trivial, (CallsIn.inRound l (callsIn_wide.2 (HLx.out _))).mono ?_⟩
        rintro e c13 ⟨r, rfl, ho, hb⟩
        obtain ⟨ra, rc, hre⟩ := IS.sl ho.is
        have O13 := Lib.hid (Own.mono ho HD0.out.size)
        have B13 := Lib.hid (joins HD0.out hb)
        clear ho hb
        subst hre
        refine hK _ _ ?_
        clear hK K
        (try simp only [Act.put, List.getElem_toArray, List.getElem_cons_zero, List.getElem_cons_succ, List.setIfInBounds_toArray, List.set_cons_zero, List.set_cons_succ])
        refine wpAnyIn_ready (rs := [0, 3]) (by kernel_rfl) (by simp) ?_
        refine AllReadyIn.cons rfl (fun K hK => ?_) (AllReadyIn.cons rfl (fun K hK => ?_) AllReadyIn.nil)
        · have cc := (show Boxed c13 w.heap.size 31 v from (B13.out.block _ HB1.out.lt).trans HB1.out).cell
          go_simp
          refine hK _ _ ?_
          clear hK K cc
          (try simp only [Act.put, List.getElem_toArray, List.getElem_cons_zero, List.setIfInBounds_toArray, List.set_cons_zero, List.set_cons_succ])
          refine wpAnyIn_ready (rs := [3]) (by kernel_rfl) (by simp) ?_
          refine AllReadyIn.cons rfl (fun K hK => ?_) AllReadyIn.nil
          go_simp
          refine hK _ _ ?_
          clear hK K
          have hn := cell_new_one c13 (.slice ra L.length rc) 22
          have hb := belowa B13.out (.cells #[.slice ra L.length rc] 22)
          have ho := Own.alloc O13.out (.cells #[.slice ra L.length rc] 22)
          obtain ⟨g, hg⟩ : ∃ g, g = c13.heap.size := ⟨_, rfl⟩
          obtain ⟨c15, hc⟩ : ∃ c, c = c13.alloc (.cells #[.slice ra L.length rc] 22) := ⟨_, rfl⟩
          rw [← hc, ← hg] at hn ⊢
          rw [← hc] at hb ho
          have N15 := Lib.hid hn
          have B15 := Lib.hid hb
          have O15 := Lib.hid ho
          clear hn hb ho hc hg
          (try simp only [Act.put, List.getElem_toArray, List.getElem_cons_zero, List.getElem_cons_succ, List.setIfInBounds_toArray, List.set_cons_zero, List.set_cons_succ])
          refine wpAnyIn_ready (rs := [4]) (by kernel_rfl) (by simp) ?_
          refine AllReadyIn.cons rfl (fun K hK => ?_) AllReadyIn.nil
          refine stepIn_pushR rfl (.tmp 12) (.tmp 15) rfl w1.heap.size v (R pre) rfl W HOW.out B15.out g 1 _ L rfl N15.out O15.out HLEN.out w.heap.size w (joins HB.out B15.out) (Nat.le_of_lt HW1.out) hw1 (Nat.le_trans HB.out.size B15.out.size) ?_
          intro v4 c16 ho hb hg
          have b4 : Boxed c16 w.heap.size 31 v := (show Boxed c15 w.heap.size 31 v from (B15.out.block _ HB1.out.lt).trans HB1.out).kept hg (fun e => HOW.out.ne HW1.out e.symm)
          obtain ⟨g4, k4, hv4, _, _⟩ := ho.shape (by simp)
          subst hv4
          rw [show (R pre ++ [L]).length = (R pre).length + 1 from by simp] at ho
          have HB4 := Lib.hid hb
          have HO4 := Lib.hid ho
          have HX4 := Lib.hid b4
          have HG4 := Lib.hid hg
          clear ho hb hg b4
          refine hK _ _ ?_
          clear hK K
          (try simp only [Act.put, List.getElem_toArray, List.getElem_cons_zero, List.getElem_cons_succ, List.setIfInBounds_toArray, List.set_cons_zero, List.set_cons_succ])
          refine wpAnyIn_ready (rs := [5]) (by kernel_rfl) (by simp) ?_
          refine AllReadyIn.cons rfl (fun K hK => ?_) AllReadyIn.nil
          have cc := HX4.out.cell
          have cf := HX4.out.frozen
          go_simp
          refine hK _ _ ?_
          clear hK K cc cf
          (try simp only [Act.put])
          refine wpAnyIn_done (by kernel_rfl) ?_ _
          gi_wp2_with fail
          exact all_round hw1 HW1.out hltS B15.out HOW.out HG4.out HB4.out HO4.out HX4.out HRX.out
        · go_simp
          refine hK _ _ ?_
          clear hK K
          have hn := cell_new_one c13 (.slice ra L.length rc) 22
          have hb := belowa B13.out (.cells #[.slice ra L.length rc] 22)
          have ho := Own.alloc O13.out (.cells #[.slice ra L.length rc] 22)
          obtain ⟨g, hg⟩ : ∃ g, g = c13.heap.size := ⟨_, rfl⟩
          obtain ⟨c18, hc⟩ : ∃ c, c = c13.alloc (.cells #[.slice ra L.length rc] 22) := ⟨_, rfl⟩
          rw [← hc, ← hg] at hn ⊢
          rw [← hc] at hb ho
          have N18 := Lib.hid hn
          have B18 := Lib.hid hb
          have O18 := Lib.hid ho
          clear hn hb ho hc hg
          (try simp only [Act.put, List.getElem_toArray, List.getElem_cons_zero, List.getElem_cons_succ, List.setIfInBounds_toArray, List.set_cons_zero, List.set_cons_succ])
          refine wpAnyIn_ready (rs := [0]) (by kernel_rfl) (by simp) ?_
          refine AllReadyIn.cons rfl (fun K hK => ?_) AllReadyIn.nil
          have cc := (show Boxed c18 w.heap.size 31 v from (B18.out.block _ HB1.out.lt).trans HB1.out).cell
          go_simp
          refine hK _ _ ?_
          clear hK K cc
          (try simp only [Act.put, List.getElem_toArray, List.getElem_cons_zero, List.setIfInBounds_toArray, List.set_cons_zero, List.set_cons_succ])
          refine wpAnyIn_ready (rs := [4]) (by kernel_rfl) (by simp) ?_
          refine AllReadyIn.cons rfl (fun K hK => ?_) AllReadyIn.nil
          refine stepIn_pushR rfl (.tmp 12) (.tmp 15) rfl w1.heap.size v (R pre) rfl W HOW.out B18.out g 1 _ L rfl N18.out O18.out HLEN.out w.heap.size w (joins HB.out B18.out) (Nat.le_of_lt HW1.out) hw1 (Nat.le_trans HB.out.size B18.out.size) ?_
          intro v4 c20 ho hb hg
          have b4 : Boxed c20 w.heap.size 31 v := (show Boxed c18 w.heap.size 31 v from (B18.out.block _ HB1.out.lt).trans HB1.out).kept hg (fun e => HOW.out.ne HW1.out e.symm)
          obtain ⟨g4, k4, hv4, _, _⟩ := ho.shape (by simp)
          subst hv4
          rw [show (R pre ++ [L]).length = (R pre).length + 1 from by simp] at ho
          have HB4 := Lib.hid hb
          have HO4 := Lib.hid ho
          have HX4 := Lib.hid b4
          have HG4 := Lib.hid hg
          clear ho hb hg b4
          refine hK _ _ ?_
          clear hK K
          (try simp only [Act.put, List.getElem_toArray, List.getElem_cons_zero, List.getElem_cons_succ, List.setIfInBounds_toArray, List.set_cons_zero, List.set_cons_succ])
          refine wpAnyIn_ready (rs := [5]) (by kernel_rfl) (by simp) ?_
          refine AllReadyIn.cons rfl (fun K hK => ?_) AllReadyIn.nil
          have cc := HX4.out.cell
          have cf := HX4.out.frozen
          go_simp
          refine hK _ _ ?_
          clear hK K cc cf
          (try simp only [Act.put])
          refine wpAnyIn_done (by kernel_rfl) ?_ _
          gi_wp2_with fail
          exact all_round hw1 HW1.out hltS B18.out HOW.out HG4.out HB4.out HO4.out HX4.out HRX.out
  case done =>
    rintro D xs W hD rfl ⟨⟨⟨v, b1, o1⟩, hw1⟩, hB⟩ hK
    obtain ⟨pv, cv, rfl⟩ := o1.is.slice
    have cc := b1.cell
    have HO := Lib.hid o1
    have HBB := Lib.hid hB
    clear o1 hB b1
    gi_wp2_with fail
    refine ⟨by simp, .inl ⟨_, _, rfl, run_takeDeferred hK, ?_⟩⟩
    exact ⟨_, results_tmp2 rfl _ _ _, _, rfl, OwnR.mono (OwnR_kept HO.out (grownBy_putObj' W D (.deferred none)) (fun r e => by cases e; exact ⟨_, hK, rfl⟩)) (Nat.le_of_lt hsz), HBB.out.trans (belowK_b (w := w) (Nat.le_refl _) W D _ _ (by omega) hK rfl rfl)⟩
  case stop =>
    rintro D c pre W _ _ h _
    exact h.elim

set_option maxHeartbeats 1000000 in
theorem iallPerfect (n : Int) (w : World) : Calls Try.prog 17 #[.int .i64 n] w (MakesRB w (pcA n) (small6 n)) := by
  cases hs : small6 n with
  | true =>
    have hn : 1 ≤ n ∧ n ≤ 6 := by simpa [small6] using hs
    obtain ⟨N, rfl⟩ := Int.eq_ofNat_of_zero_le (show 0 ≤ n by omega)
    have := iallYes N (by omega) (by omega) w
    rwa [show (pcH N).map (fun r : Nat => lowD (r : Int) N) = pcA N by unfold pcA; rw [hs]; rfl] at this
  | false =>
    have HC := Lib.hid (isSearched6 n)
    rw [hs] at HC
    have hb : pcA n = [] := by unfold pcA; rw [hs]; rfl
    rw [hb]
    clear hs hb
    go_enter Try.func17, Try.ntmps17
    go_wp2_with fail
    refine (HC.out _).mono ?_
    rintro e w1 ⟨rfl, rfl⟩
    go_wp2_with fail
    go_returns
    exact ⟨_, rfl, OwnR.nil _ _, by go_grown⟩
theorem pcA_tot (n : Int) : tot (pcA n) ≤ 1048576 := by
  cases hs : small6 n with
  | true =>
    have hn : 1 ≤ n ∧ n ≤ 6 := by simpa [small6] using hs
    obtain ⟨N, rfl⟩ := Int.eq_ofNat_of_zero_le (show 0 ≤ n by omega)
    have e : pcA N = (pcH N).map (fun r : Nat => lowD (r : Int) N) := by unfold pcA; rw [hs]; rfl
    have h1 : (pcH N).length ≤ 65536 := Nat.le_trans (rkL_len _ _) (pow4_le' N (by omega)).2
    rw [e]
    have h2 : ∀ rs : List Nat, tot (rs.map (fun r : Nat => lowD (r : Int) N)) ≤ rs.length * (N + 1) + 0 := fun rs => by
      induction rs with
      | nil => simp [tot]
      | cons r rs ih => simp only [List.map_cons, tot, List.length_cons, lowD_length]; rw [Nat.succ_mul]; omega
    have h3 := h2 (pcH N)
    have h4 : (pcH N).length * (N + 1) ≤ 65536 * 7 := Nat.mul_le_mul h1 (by omega)
    omega
  | false => unfold pcA; rw [hs]; simp [tot]
end Go.Proofs.Ytjoepdflbbcliaa
