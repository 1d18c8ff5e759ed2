/- The model's clMoves, l1Same, MoveBetween, KeepersOf, CountFixed, SizesOf. -/
import Derived.Test.YtcagiecgbjnefaaClN
import Derived.Test.YtcagiecgbjnefaaSClA
import Derived.Test.YtcagiecgbjnefaaSOwn
import Derived.Test.YtcagiecgbjnefaaSEn
import Derived.Test.YtcagiecgbjnefaaWith
namespace Go.Proofs.Ytcagiecgbjnefaa
set_option maxRecDepth 100000
open Go.RowKit

theorem own_four9 (w : World) (a b c d : Int) (B : Nat) (hB : B ≤ w.heap.size) : Own (w.alloc (.cells #[.int .i64 a, .int .i64 b, .int .i64 c, .int .i64 d] 3)) B (.slice (some ⟨w.heap.size, 0, none⟩) 4 4) [a, b, c, d] := by
  refine ⟨rfl, Or.inr ⟨w.heap.size, 4, #[.int .i64 a, .int .i64 b, .int .i64 c, .int .i64 d], rfl, hB, heap_alloc_new w _, by simp, by unfold maxLen; omega, by simp, by simp⟩⟩
theorem cell_two_one (w : World) (o : Obj) (v : Value) (T : TypeId) : ((w.alloc o).alloc (.cells #[v] T)).cell? ⟨w.heap.size + 1, 0, none⟩ = some v := by
  have h : ((w.alloc o).alloc (.cells #[v] T)).cell? ⟨(w.alloc o).heap.size, 0, none⟩ = some v := by rw [cell_of_row _ _ _ _ _ _ (heap_alloc_new _ _)]; rfl
  rwa [World.size_alloc] at h
def mvR (k : Nat) : List (List Int) := (List.range k).map mvI
theorem mvR_len (k : Nat) : (mvR k).length = k := by simp [mvR]
theorem mvR_succ (k : Nat) : mvR (k + 1) = mvR k ++ [[(k : Int) / 16, (k : Int) / 4 % 4, (k : Int) / 2 % 2, (k : Int) % 2]] := by unfold mvR; rw [List.range_succ, List.map_append]; rfl
theorem mvR_at (k i : Nat) (h : i < k) : (mvR k).getD i [] = mvI i := by unfold mvR; simp [List.getD, h]
set_option maxRecDepth 100000 in
set_option maxHeartbeats 1000000 in
theorem clMoves_any (w : World) : Calls Try.prog 44 #[] w (MakesR w (mvR 64)) := by
  go_enter Try.func44, Try.ntmps44
  go_wp2_with fail
  go_loopw [2, 1] (fun x o wr => ∃ k : Nat, k ≤ 64 ∧ x = .int .i64 k ∧ OwnR wr w.heap.size o (mvR k) ∧ Below w.heap.size w wr) (fun x _ _ => 64 - (intOf x).toNat)
  case atStart => exact ⟨0, Nat.zero_le _, rfl, OwnR.nil _ _, Below.refl _ _⟩
  case round =>
    obtain ⟨k, hk, rfl, hown, hbel⟩ := hrel
    have HB := Lib.hid hbel
    have HO := Lib.hid hown
    clear hown hbel
    by_cases hlt : k < 64
    · have h0 : (0 : Int) ≤ (k : Int) := by omega
      have h1 : (k : Int) < 64 := by omega
      have HS := Lib.hid (mvR_succ k)
      have HGL := Lib.hid (show (mvR k).length ≤ 1048576 by rw [mvR_len]; omega)
      go_wp2_with (at_builtin; refine wpList_pushR rfl _ _ rfl w.heap.size _ (mvR k) rfl wr HO.out (belowa (belowa (Below.refl _ _) _) _) (wr.heap.size + 1) 1 (.slice (some ⟨wr.heap.size, 0, none⟩) 4 4) [(k : Int) / 16, (k : Int) / 4 % 4, (k : Int) / 2 % 2, (k : Int) % 2] rfl (cell_two_one _ _ _ _) ((own_four9 wr _ _ _ _ wr.heap.size (Nat.le_refl _)).alloc _) HGL.out w.heap.size w (belowa (belowa HB.out _) _) (Nat.le_refl _) HB.out.size (by have := HB.out.size; simp; omega) ?_; intro v4 w4 ho4 hb4)
      go_roundw
      case rel => exact ⟨k + 1, by omega, by go_num, by rw [HS.out]; assumption, by assumption⟩
      case measure => simp [intOf]; omega
    · obtain rfl : k = 64 := by omega
      go_wp2_with fail
      go_returns
      exact ⟨_, rfl, HO.out, HB.out⟩

theorem same_next {l m : List Int} {k : Nat} (h : ∀ j, j < k → l.getD j 0 = m.getD j 0) (hk : l.getD k 0 = m.getD k 0) : ∀ j, j < k + 1 → l.getD j 0 = m.getD j 0 := fun j hj => by
  rcases Nat.lt_succ_iff_lt_or_eq.1 hj with h1 | h1
  · exact h j h1
  · rw [h1]; exact hk
theorem same_all {l m : List Int} (hl : l.length = m.length) (h : ∀ j, j < l.length → l.getD j 0 = m.getD j 0) : l = m := by
  rw [← gen_self l, ← gen_self m, ← hl]
  exact gen_ext h
set_option maxRecDepth 100000 in
set_option maxHeartbeats 1000000 in
theorem l1Same_any (va vb : Value) (l m : List Int) (w : World) (hva : IS w va l) (hvb : IS w vb m) (hl : l.length ≤ 1048576) (hm : m.length ≤ 1048576) : Calls Try.prog 45 #[va, vb] w (Ret w (.bool (decide (l = m)))) := by
  by_cases hlen : l.length = m.length
  · rcases hva with ⟨rfl, a, cap, rfl⟩ | ⟨hn, b, off, cap, rfl, hmx, hc⟩
    · have hm0 : m = [] := List.length_eq_zero_iff.1 hlen.symm
      subst hm0
      obtain ⟨a2, cap2, rfl⟩ := hvb.shape
      clear hvb hlen hl hm
      go_enter Try.func45, Try.ntmps45
      go_wp2_with fail
      go_loop [13] (fun i => i = .int .i64 0) (fun _ => 0)
      case atStart => rfl
      case round =>
        subst hrel
        go_wp2_with fail
        go_returns
        exact ⟨rfl, by go_grown⟩
    · rcases hvb with ⟨rfl, _⟩ | ⟨hn2, b2, off2, cap2, rfl, hmx2, hc2⟩
      · exact absurd (List.length_eq_zero_iff.1 hlen) hn
      have HLN := Lib.hid hlen
      obtain ⟨N, hN⟩ : ∃ N, N = l.length := ⟨_, rfl⟩
      rw [← hlen] at hc2 ⊢
      rw [← hN] at hc hc2 hl ⊢
      have HN := Lib.hid hN
      have HC := Lib.hid hc
      have HC2 := Lib.hid hc2
      clear hn hmx hc hn2 hmx2 hc2 hlen hN hm
      go_enter Try.func45, Try.ntmps45
      go_wp2_with fail
      go_loopw [13] (fun i wr => ∃ k : Nat, k ≤ N ∧ i = .int .i64 k ∧ (∀ j, j < k → l.getD j 0 = m.getD j 0) ∧ Below w.heap.size w wr) (fun i _ => N - (intOf i).toNat)
      case atStart => exact ⟨0, Nat.zero_le _, rfl, fun j h => absurd h (Nat.not_lt_zero _), Below.refl _ _⟩
      case round =>
        obtain ⟨k, hk, rfl, hsame, hbel⟩ := hrel
        have HB := Lib.hid hbel
        have HSM := Lib.hid hsame
        clear hsame
        by_cases hlt : k < N
        · have c1 := keepc HB.out (HC.out k hlt)
          have c2 := keepc HB.out (HC2.out k hlt)
          have HNX := Lib.hid (fun h => same_next HSM.out (k := k) h)
          have HNE := Lib.hid (fun (h : l.getD k 0 ≠ m.getD k 0) => show decide (l = m) = false from decide_eq_false (fun e => h (by rw [e])))
          obtain ⟨x, hx⟩ : ∃ x, x = l.getD k 0 := ⟨_, rfl⟩
          obtain ⟨y, hy⟩ : ∃ x, x = m.getD k 0 := ⟨_, rfl⟩
          rw [← hx] at c1 HNX HNE
          rw [← hy] at c2 HNX HNE
          have h0 : (0 : Int) ≤ (k : Int) := by omega
          have h1 : (k : Int) < (N : Int) := by omega
          clear hx hy hbel
          by_cases hxy : x = y
          · subst hxy
            go_wp2_with fail
            go_region
            all_goals
              go_wp2_with fail
              go_roundw
              case rel => exact ⟨k + 1, by omega, by go_num, HNX.out (by trivial), by first | exact HB.out | exact belowN HB.out 1⟩
              case measure => simp [intOf]; omega
          · have hne : (x != y) = true := by simpa using hxy
            have hd := HNE.out hxy
            rw [hd]
            go_wp2_with fail
            go_region
            all_goals
              go_wp2_with fail
              go_returns
              exact ⟨rfl, by first | exact HB.out | exact belowN HB.out 1⟩
        · obtain rfl : k = N := by omega
          have hd : decide (l = m) = true := decide_eq_true (same_all HLN.out (by rw [← HN.out]; exact HSM.out))
          go_wp2_with fail
          go_returns
          exact ⟨ret_bool hd.symm, by first | exact HB.out | exact belowN HB.out 1⟩
  · have hd : decide (l = m) = false := decide_eq_false (fun e => hlen (by rw [e]))
    rw [hd]
    obtain ⟨a1, c1, rfl⟩ := hva.shape
    obtain ⟨a2, c2, rfl⟩ := hvb.shape
    have hne : (((l.length : Int)) != (m.length : Int)) = true := by simpa using (show ((l.length : Int)) ≠ (m.length : Int) by omega)
    obtain ⟨n1, hn1⟩ : ∃ n, n = l.length := ⟨_, rfl⟩
    obtain ⟨n2, hn2⟩ : ∃ n, n = m.length := ⟨_, rfl⟩
    rw [← hn1, ← hn2] at hne ⊢
    clear hva hvb hd hlen hn1 hn2 hl hm
    go_enter Try.func45, Try.ntmps45
    go_wp2_with fail
    go_returns
    exact ⟨rfl, by go_grown⟩
theorem OwnR.rowAt {w : World} {B g n cap : Nat} {ll : List (List Int)} (h : OwnR w B (.slice (some ⟨g, 0, none⟩) n cap) ll) (hn : n = ll.length) (i : Nat) (hi : i < ll.length) :
    ∃ u, w.cell? ⟨g, i, none⟩ = some u ∧ Own w B u (ll.getD i []) := by
  subst hn
  obtain ⟨rs, h, hr, -⟩ := h
  refine ⟨rs.getD i (.slice none 0 0), ?_, hr.own i hi⟩
  rw [h.cellAt i (by omega)]
  have : i < rs.length := by rw [hr.len]; exact hi
  simp [List.getD, this]
theorem apply_at (l : List Int) (hl : isSeq l = true) (k : Nat) (hk : k < 64) (v vm : Value) (w : World) (hv : IS w v l) (hvm : IS w vm (mvI k)) : Calls Try.prog 35 #[v, vm] w (Makes w (clX k l)) :=
  clApply_any v vm l (mvI k) w hv hvm (mvI_ok k hk) hl

set_option maxRecDepth 100000 in
set_option maxHeartbeats 2000000 in
theorem sMoveBetween (va vb : Value) (l t : List Int) (w : World) (hva : IS w va l) (hvb : IS w vb t) (hla : l.length ≤ 1048576) (hlb : t.length ≤ 1048576) : Calls Try.prog 20 #[va, vb] w (MakesB w (mbF l t) (mbOk l t)) := by
  have HG := Lib.hid (clGood_any va l w hva hla)
  have HG2 := Lib.hid (fun w' (h : Below w.heap.size w w') => clGood_any vb t w' (hvb.below h) hlb)
  obtain ⟨pa, ca, rfl⟩ := hva.shape
  obtain ⟨pb, cb, rfl⟩ := hvb.shape
  have hno : mbOk l t = false → mbF l t = [] := fun h => by unfold mbF; rw [h]; rfl
  cases hr : ranked l with
  | false =>
    have h0 : mbOk l t = false := by unfold mbOk bothR; rw [hr]; rfl
    rw [h0, hno h0]
    rw [hr] at HG
    obtain ⟨n1, hn1⟩ : ∃ n, n = l.length := ⟨_, rfl⟩
    obtain ⟨n2, hn2⟩ : ∃ n, n = t.length := ⟨_, rfl⟩
    rw [← hn1] at HG ⊢
    rw [← hn2] at HG2 ⊢
    clear hno h0 hr hva hvb hla hlb hn1 hn2
    go_enter Try.func20, Try.ntmps20
    go_wp2_with fail
    refine HG.out.mono ?_
    rintro e w1 ⟨rfl, hb⟩
    have B1 := Lib.hid hb
    clear hb
    go_wp2_with fail
    go_returns
    exact ⟨_, rfl, World.ownsRow_nil _ _ _ _, B1.out⟩
  | true =>
    rw [hr] at HG
    cases hr2 : ranked t with
    | false =>
      have h0 : mbOk l t = false := by unfold mbOk bothR; rw [hr, hr2]; rfl
      rw [h0, hno h0]
      rw [hr2] at HG2
      obtain ⟨n1, hn1⟩ : ∃ n, n = l.length := ⟨_, rfl⟩
      obtain ⟨n2, hn2⟩ : ∃ n, n = t.length := ⟨_, rfl⟩
      rw [← hn1] at HG ⊢
      rw [← hn2] at HG2 ⊢
      clear hno h0 hr hr2 hva hvb hla hlb hn1 hn2
      go_enter Try.func20, Try.ntmps20
      go_wp2_with fail
      refine HG.out.mono ?_
      rintro e w1 ⟨rfl, hb⟩
      have B1 := Lib.hid hb
      clear hb
      go_wp2_with fail
      refine (HG2.out _ B1.out).mono ?_
      rintro e w2 ⟨rfl, hb⟩
      have B2 := Lib.hid (joins B1.out hb)
      clear hb
      go_wp2_with fail
      go_returns
      exact ⟨_, rfl, World.ownsRow_nil _ _ _ _, B2.out⟩
    | true =>
      rw [hr2] at HG2
      by_cases hlen : l.length = t.length
      · have hsq := (ranked_seq hr).1
        have HA := Lib.hid (apply_at l hsq)
        have HS := Lib.hid (fun k v v2 w (h1 : IS w v (clX k l)) (h2 : IS w v2 t) => l1Same_any v v2 (clX k l) t w h1 h2 (by rw [clX_len]; exact hla) hlb)
        have HV := Lib.hid hva
        have HV2 := Lib.hid hvb
        have HOK : mbOk l t = !(mbX l t 64).isEmpty := by unfold mbOk bothR; rw [hr, hr2]; rfl
        have HF : ∀ k, k < 64 → mbX l t k = [] → clX k l = t → mbOk l t = true ∧ mbF l t = mvI k := fun k hk h1 h2 => by
          obtain ⟨h3, h4⟩ := mbX_first l t k h1 h2 (63 - k)
          rw [show k + 1 + (63 - k) = 64 by omega] at h3 h4
          have h5 : mbOk l t = true := by rw [HOK]; cases h6 : mbX l t 64 with
            | nil => exact absurd h6 h4
            | cons => rfl
          exact ⟨h5, by unfold mbF; rw [h5, h3]; rfl⟩
        have HN := Lib.hid (fun k => mbX_succ l t k)
        have HFF := Lib.hid HF
        have HZ := Lib.hid (fun (h : mbX l t 64 = []) => show mbOk l t = false from by rw [HOK, h]; rfl)
        have HNO := Lib.hid hno
        have hx0 := Lib.hid (show mbX l t 0 = [] from rfl)
        obtain ⟨n, hn⟩ : ∃ n, n = l.length := ⟨_, rfl⟩
        rw [← hlen] at HV2 HG2 ⊢
        rw [← hn] at HG HG2 HV HV2 ⊢
        have hMR := mvR_len 64
        have HMA := Lib.hid (mvR_at 64)
        have HCM := Lib.hid clMoves_any
        obtain ⟨MR, hMRd⟩ : ∃ M, M = mvR 64 := ⟨_, rfl⟩
        rw [← hMRd] at hMR HMA HCM
        have HML := Lib.hid hMR
        clear hno hr hr2 hva hvb hla hlb hlen hn HOK HF hsq hMR hMRd
        go_enter Try.func20, Try.ntmps20
        go_wp2_with fail
        refine HG.out.mono ?_
        rintro e w1 ⟨rfl, hb⟩
        have B1 := Lib.hid hb
        clear hb
        go_wp2_with fail
        refine (HG2.out _ B1.out).mono ?_
        rintro e w2 ⟨rfl, hb⟩
        have B2 := Lib.hid (joins B1.out hb)
        clear hb
        go_wp2_with fail
        refine (HCM.out _).mono ?_
        rintro e w3 ⟨rv, rfl, ho, hb⟩
        have B3 := Lib.hid (joins B2.out hb)
        have hor := ho.mono B2.out.size
        obtain ⟨g, cap, rfl, hg1, hg2⟩ := hor.shape (by rw [HML.out]; omega)
        rw [HML.out] at hor
        have O3 := Lib.hid hor
        clear ho hor hb
        have hgg := Lib.hid hg1
        rw [HML.out]
        clear hg1 hg2
        go_wp2_with fail
        go_loopw [25] (fun i wr => ∃ k : Nat, k ≤ 64 ∧ i = .int .i64 k ∧ mbX l t k = [] ∧ OwnR wr w.heap.size (.slice (some ⟨g, 0, none⟩) 64 cap) MR ∧ Below w.heap.size w wr) (fun i _ => 64 - (intOf i).toNat)
        case atStart => exact ⟨0, Nat.zero_le _, rfl, hx0.out, O3.out, B3.out⟩
        case round =>
          obtain ⟨k, hk, rfl, hmb, hown, hbel⟩ := hrel
          have HMB := Lib.hid hmb
          have HO := Lib.hid hown
          have HB := Lib.hid hbel
          by_cases hlt : k < 64
          · obtain ⟨u, c1, hu⟩ := hown.rowAt HML.out.symm k (by rw [HML.out]; exact hlt)
            rw [HMA.out k hlt] at hu
            have HU := Lib.hid hu
            have HAk := Lib.hid (HA.out k hlt)
            have HSk := Lib.hid (HS.out k)
            have HNk := HN.out k
            have HFk := Lib.hid (HFF.out k hlt HMB.out)
            rw [HMB.out, List.nil_append] at HNk
            have HN' := Lib.hid HNk
            have h0 : (0 : Int) ≤ (k : Int) := by omega
            have h1 : (k : Int) < 64 := by omega
            clear hmb hown hbel hu HNk
            go_wp2_with fail
            refine (HAk.out _ _ _ (HV.out.below HB.out) HU.out.is).mono ?_
            rintro e w5 ⟨s, rfl, ho, hb⟩
            have B5 := Lib.hid (joins HB.out hb)
            have O5 := Lib.hid ho
            have U5 := Lib.hid (HU.out.below hb)
            have R5 := Lib.hid (HO.out.below hb)
            clear ho hb c1
            go_wp2_with fail
            refine (HSk.out _ _ _ O5.out.is (HV2.out.below B5.out)).mono ?_
            rintro e w6 ⟨rfl, hb⟩
            have B6 := Lib.hid (joins B5.out hb)
            have U6 := Lib.hid (U5.out.below hb)
            have R6 := Lib.hid (R5.out.below hb)
            clear hb
            by_cases hx : clX k l = t
            · obtain ⟨e1, e2⟩ := HFk.out hx
              rw [decide_eq_true hx]
              have E1 := Lib.hid e1
              have E2 := Lib.hid e2
              clear hx e1 e2
              go_wp2_with fail
              go_returns
              exact ⟨u, by rw [E1.out]; rfl, by rw [E2.out]; exact U6.out, B6.out⟩
            · have hnx := HN'.out
              rw [if_neg hx] at hnx
              have HX := Lib.hid hnx
              rw [decide_eq_false hx]
              clear hx hnx
              go_wp2_with fail
              go_roundw
              case rel => exact ⟨k + 1, by omega, by go_num, HX.out, R6.out, B6.out⟩
              case measure => simp [intOf]; omega
          · obtain rfl : k = 64 := by omega
            have hz := HZ.out hmb
            have E1 := Lib.hid hz
            have E2 := Lib.hid (HNO.out hz)
            clear hmb hown hbel hz
            go_wp2_with fail
            go_returns
            exact ⟨.slice none 0 0, by rw [E1.out]; rfl, by rw [E2.out]; exact World.ownsRow_nil _ _ _ _, HB.out⟩
      · have h0 : mbOk l t = false := by unfold mbOk; rw [mbX_none l t hlen]; simp
        rw [h0, hno h0]
        have hne : (((l.length : Int)) != (t.length : Int)) = true := by simpa using (show ((l.length : Int)) ≠ (t.length : Int) by omega)
        obtain ⟨n1, hn1⟩ : ∃ n, n = l.length := ⟨_, rfl⟩
        obtain ⟨n2, hn2⟩ : ∃ n, n = t.length := ⟨_, rfl⟩
        rw [← hn1] at HG hne ⊢
        rw [← hn2] at HG2 hne ⊢
        clear hno h0 hr hr2 hva hvb hla hlb hn1 hn2 hlen
        go_enter Try.func20, Try.ntmps20
        go_wp2_with fail
        refine HG.out.mono ?_
        rintro e w1 ⟨rfl, hb⟩
        have B1 := Lib.hid hb
        clear hb
        go_wp2_with fail
        refine (HG2.out _ B1.out).mono ?_
        rintro e w2 ⟨rfl, hb⟩
        have B2 := Lib.hid (joins B1.out hb)
        clear hb
        go_wp2_with fail
        go_returns
        exact ⟨_, rfl, World.ownsRow_nil _ _ _ _, B2.out⟩
end Go.Proofs.Ytcagiecgbjnefaa
