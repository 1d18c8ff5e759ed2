/- The program's ErrorsOf, MixPhases. -/
import Derived.Test.YtoehehaeanepmaaIMo
namespace Go.Proofs.Ytoehehaeanepmaa
set_option maxRecDepth 100000
open Go.RowKit

set_option maxRecDepth 100000 in
set_option maxHeartbeats 2000000 in
theorem iErrorsOf (va vb : Value) (a b : List Int) (w : World) (hva : IS w va a) (hvb : IS w vb b) (hla : a.length ≤ 1048576) (hlb : b.length ≤ 1048576) : Calls Try.prog 24 #[va, vb] w (Ret w (.tuple #[.int .i64 (erV a b), .bool (erOk a b)])) := by
  have HA := Lib.hid (fun w h => isBits_any va a w h hla)
  have HB' := Lib.hid (fun w h => isBits_any vb b w h hlb)
  obtain ⟨pa, ca, rfl⟩ := hva.slice
  obtain ⟨pb, cb, rfl⟩ := hvb.slice
  have HVA := Lib.hid hva
  have HVB := Lib.hid hvb
  have hok : erOk a b = (bsOk a && bsOk b && decide (a.length = b.length)) := rfl
  cases ha : bsOk a with
  | false =>
    have ho : erOk a b = false := by rw [hok, ha]; rfl
    have hv : erV a b = 0 := by unfold erV; rw [ho]; rfl
    rw [ho, hv]
    rw [ha] at HA
    clear ho hv hok ha hva hvb hla hlb
    go_enter Try.func24, Try.ntmps24
    go_wp2_with fail
    refine (HA.out _ HVA.out).mono ?_
    rintro e w1 ⟨rfl, hb1⟩
    go_wp2_with fail
    go_returns
    exact ⟨rfl, hb1⟩
  | true =>
    rw [ha] at HA
    cases hb : bsOk b with
    | false =>
      have ho : erOk a b = false := by rw [hok, ha, hb]; rfl
      have hv : erV a b = 0 := by unfold erV; rw [ho]; rfl
      rw [ho, hv]
      rw [hb] at HB'
      clear ho hv hok ha hb hva hvb hla hlb
      go_enter Try.func24, Try.ntmps24
      go_wp2_with fail
      refine (HA.out _ HVA.out).mono ?_
      rintro e w1 ⟨rfl, hb1⟩
      go_wp2_with fail
      refine (HB'.out _ (HVB.out.below hb1)).mono ?_
      rintro e w2 ⟨rfl, hb2⟩
      have hb3 := joins hb1 hb2
      go_wp2_with fail
      go_returns
      exact ⟨rfl, hb3⟩
    | true =>
      rw [hb] at HB'
      have HATA := Lib.hid (fun k hk => bsOk_at ha k hk)
      have HATB := Lib.hid (fun k hk => bsOk_at hb k hk)
      have HER := Lib.hid (fun k => erN_in a b k)
      have h64 := bsOk_len ha
      by_cases hl : a.length = b.length
      · have ho : erOk a b = true := by rw [hok, ha, hb, decide_eq_true hl]; rfl
        have hv : erV a b = erN a b a.length := by unfold erV; rw [ho]; rfl
        rw [ho, hv]
        obtain ⟨N, hN⟩ : ∃ N, N = a.length := ⟨_, rfl⟩
        rw [← hl] at HVB HB' ⊢
        rw [← hN] at HVA HVB HA HB' h64 ⊢
        have HN := Lib.hid hN
        have HNB := Lib.hid (hN.trans hl)
        clear ho hv hok ha hb hva hvb hla hlb hl hN
        go_enter Try.func24, Try.ntmps24
        go_wp2_with fail
        refine (HA.out _ HVA.out).mono ?_
        rintro e w1 ⟨rfl, hb1⟩
        have HB1 := Lib.hid hb1
        clear hb1
        go_wp2_with fail
        refine (HB'.out _ (HVB.out.below HB1.out)).mono ?_
        rintro e w2 ⟨rfl, hb2⟩
        have HB2 := Lib.hid (joins HB1.out hb2)
        clear hb2
        go_wp2_with fail
        go_loopw [25, 6, 7] (fun i n _ wr => ∃ j : Nat, j ≤ N ∧ i = .int .i64 j ∧ n = .int .i64 (erN a b j) ∧ Below w.heap.size w wr) (fun i _ _ _ => N - (intOf i).toNat)
        case atStart => exact ⟨0, Nat.zero_le _, rfl, rfl, HB2.out⟩
        case round =>
          obtain ⟨j, hj, rfl, rfl, hbel⟩ := hrel
          have HB := Lib.hid hbel
          by_cases hlt : j < N
          · have hltl : j < a.length := by rw [← HN.out]; exact hlt
            have hltb : j < b.length := by rw [← HNB.out]; exact hlt
            rcases HVA.out.below hbel with ⟨h0', _⟩ | ⟨_, ba, oa, cap', hveq, _, hc⟩
            · rw [h0'] at hltl; exact absurd hltl (Nat.not_lt_zero _)
            simp only [Value.slice.injEq] at hveq
            obtain ⟨rfl, hnn, rfl⟩ := hveq
            rcases HVB.out.below hbel with ⟨h0', _⟩ | ⟨_, bb, ob, cap', hveq, _, hc2⟩
            · rw [h0'] at hltb; exact absurd hltb (Nat.not_lt_zero _)
            simp only [Value.slice.injEq] at hveq
            obtain ⟨rfl, hnn2, rfl⟩ := hveq
            clear hnn hnn2
            have c1 := hc j hltl
            have c2 := hc2 j hltb
            obtain ⟨hx1, hx2⟩ := HATA.out j hltl
            obtain ⟨hy1, hy2⟩ := HATB.out j hltb
            obtain ⟨he1, he2⟩ := HER.out j
            have hes : erN a b (j + 1) = erN a b j + (a.getD j 0 + b.getD j 0) % 2 := rfl
            obtain ⟨x, hxd⟩ : ∃ x, x = a.getD j 0 := ⟨_, rfl⟩
            obtain ⟨y, hyd⟩ : ∃ x, x = b.getD j 0 := ⟨_, rfl⟩
            obtain ⟨z, hzd⟩ : ∃ z, z = erN a b j := ⟨_, rfl⟩
            rw [← hxd] at c1 hx1 hx2 hes
            rw [← hyd] at c2 hy1 hy2 hes
            rw [← hzd] at he1 he2 hes ⊢
            have hm := xor01 x y ⟨hx1, hx2⟩ ⟨hy1, hy2⟩
            have hq : 0 ≤ (x + y) % 2 ∧ (x + y) % 2 ≤ 1 := by omega
            obtain ⟨r, hr⟩ : ∃ r, r = (x + y) % 2 := ⟨_, rfl⟩
            rw [← hr] at hm hq hes
            obtain ⟨hq1, hq2⟩ := hq
            have hz64 : z ≤ 64 := by omega
            have HES := Lib.hid hes
            have h0 : (0 : Int) ≤ (j : Int) := by omega
            have h1 : (j : Int) < (N : Int) := by omega
            clear hc hc2 hxd hyd hzd hes hr hbel he2
            go_wp2_with fail
            go_region
            all_goals
              go_wp2_with fail
              go_roundw
              case rel => exact ⟨j + 1, by omega, by go_num, by rw [HES.out], by have hb9 := HB.out; go_grown⟩
              case measure => simp [intOf]; omega
          · obtain rfl : j = N := by omega
            clear hbel
            go_wp2_with fail
            go_returns
            exact ⟨rfl, HB.out⟩
      · have ho : erOk a b = false := by rw [hok, ha, hb, decide_eq_false hl]; rfl
        have hv : erV a b = 0 := by unfold erV; rw [ho]; rfl
        rw [ho, hv]
        obtain ⟨N, hN⟩ : ∃ N, N = a.length := ⟨_, rfl⟩
        obtain ⟨M, hM⟩ : ∃ N, N = b.length := ⟨_, rfl⟩
        rw [← hN] at HVA HA hl ⊢
        rw [← hM] at HVB HB' hl ⊢
        have hn : ((N : Int) != (M : Int)) = true := by simp; omega
        clear ho hv hok ha hb hva hvb hla hlb hl hN hM h64 HATA HATB HER
        go_enter Try.func24, Try.ntmps24
        go_wp2_with fail
        refine (HA.out _ HVA.out).mono ?_
        rintro e w1 ⟨rfl, hb1⟩
        go_wp2_with fail
        refine (HB'.out _ (HVB.out.below hb1)).mono ?_
        rintro e w2 ⟨rfl, hb2⟩
        have hb3 := joins hb1 hb2
        go_wp2_with fail
        go_returns
        exact ⟨rfl, hb3⟩

/-! ### mixed phases -/
set_option maxHeartbeats 1000000 in
theorem nextKey_any (q : Nat) (h255 : q ≤ 255) (w : World) : Calls Try.prog 52 #[.int .i64 q] w (Pure w (.int .i64 (nxK q))) := by
  have hd : (q : Int).tdiv 2 = ((q / 2 : Nat) : Int) := by rw [Int.tdiv_eq_ediv_of_nonneg (by omega)]; omega
  have h2 : (q : Int).tmod 2 = ((q % 2 : Nat) : Int) := by rw [Int.tmod_eq_emod_of_nonneg (by omega)]; omega
  have hxo := xor184 (q / 2) (by omega)
  have hnq : nxK q = if q % 2 = 1 then (q / 2) ^^^ 184 else q / 2 := rfl
  obtain ⟨h, hh⟩ : ∃ h, h = q / 2 := ⟨_, rfl⟩
  rw [← hh] at hd hxo hnq
  rw [hnq]
  have hh1 : (h : Int) ≤ 127 := by omega
  have hq0 : (0 : Int) ≤ (q : Int) := by omega
  have hq255 : (q : Int) ≤ 255 := by omega
  clear hh hnq
  by_cases hodd : q % 2 = 1
  · rw [hodd] at h2
    rw [if_pos hodd]
    clear hodd
    go_enter Try.func52, Try.ntmps52
    go_wp2_with fail
    go_returns
    exact ⟨rfl, rfl⟩
  · rw [if_neg hodd]
    rw [show q % 2 = 0 by omega] at h2
    clear hodd
    go_enter Try.func52, Try.ntmps52
    go_wp2_with fail
    go_returns
    exact ⟨rfl, rfl⟩

/-- Behind the opening: a copy of the sequence in a variable. -/
theorem padG_zero (N : Nat) (G : Nat → Int) (l : List Int) (hN : N = l.length) : gen N (fun i => if i < 0 then G i else l.getD i 0) = l := by
  rw [hN]
  refine Eq.trans (gen_ext (fun i _ => ?_)) (gen_self l)
  rw [if_neg (Nat.not_lt_zero _)]
theorem padG_next (N j : Nat) (G : Nat → Int) (l : List Int) : gen N (fun i => if i = j then G j else if i < j then G i else l.getD i 0) = gen N (fun i => if i < j + 1 then G i else l.getD i 0) := by
  apply gen_ext
  intro i _
  by_cases h1 : i = j
  · subst h1; rw [if_pos rfl, if_pos (Nat.lt_succ_self _)]
  · rw [if_neg h1]
    by_cases h2 : i < j
    · rw [if_pos h2, if_pos (Nat.lt_succ_of_lt h2)]
    · rw [if_neg h2, if_neg (by omega)]
set_option maxRecDepth 100000 in
set_option maxHeartbeats 2000000 in
theorem imixPhases_in (v : Value) (l : List Int) (k : Nat) (w : World) (hv : IS w v l) (hs : isSeq l = true) (hk1 : 1 ≤ k) (hk : k ≤ 255) : Calls Try.prog 26 #[v, .int .i64 k] w (MakesB w (gen l.length (miT l k)) true) := by
  have h32 := isSeq_len hs
  have HP := Lib.hid (phasesOf_seq v l w hv hs)
  obtain ⟨a, cap, hveq⟩ := hv.slice
  subst hveq
  have HAT := Lib.hid (fun j hj => allIn_getD (isSeq_all hs) j hj)
  have HMX := Lib.hid (fun j => mxK_in k (by omega) j)
  obtain ⟨N, hN⟩ : ∃ N, N = l.length := ⟨_, rfl⟩
  obtain ⟨G, hG⟩ : ∃ G : Nat → Int, G = miT l k := ⟨_, rfl⟩
  have hPZ := padG_zero N G l hN
  have hPN := fun j => padG_next N j G l
  have hpl : (padL l).length = 32 := padL_length h32
  have hone := phA_one (padL l) (N : Int)
  have hsz : (phA (padL l) (N : Int)).size = 33 := phA_size _ _ hpl
  rw [← hG]
  rw [← hN] at HP h32 ⊢
  obtain ⟨C, hC⟩ : ∃ C, C = phA (padL l) (N : Int) := ⟨_, rfl⟩
  rw [← hC] at HP hone hsz
  have HC := Lib.hid hC
  have HN := Lib.hid hN
  have HG := Lib.hid hG
  have HPZ := Lib.hid hPZ
  have HPN := Lib.hid hPN
  have HSZ := Lib.hid hsz
  have HONE := Lib.hid hone
  have hk0 : (1 : Int) ≤ (k : Int) := by omega
  have hk255 : (k : Int) ≤ 255 := by omega
  clear hN hG hs hv hPZ hPN hpl hone hsz hC
  go_enter Try.func26, Try.ntmps26
  go_wp2_with fail
  refine (HP.out).mono ?_
  rintro e w1 ⟨rfl, hb1⟩
  have HB1 := Lib.hid hb1
  have hs1 := hb1.size
  clear hb1
  go_wp2_with (first
    | (refine wpList_alloc_big rfl 52 rfl (phA z32 0) zeroPh ?_)
    | (refine wpList_store_big rfl 52 (.tmp 6) (.tmp 12) rfl w1.heap.size C rfl rfl 52 _ (heap_alloc_new w1 _) 33 infoPh HSZ.out (phA_size _ _ z32_length) HONE.out w.heap.size w (belowa HB1.out _) (by omega) ?_; intro w3 hg3 ho3 hz3 hb3; have HG3 := Lib.hid hg3; have HB3 := Lib.hid hb3; have c32 : w3.cell? ⟨w1.heap.size, 32, none⟩ = some (.int .i64 N) := (by rw [cell_of_row w3 _ _ _ _ _ hg3, HC.out, phA_len _ _ (padL_length (by rw [← HN.out]; exact h32))]); clear hg3 ho3 hz3 hb3))
  go_loopw [26, 1, 8] (fun i q _ wr => ∃ j : Nat, j ≤ N ∧ i = .int .i64 j ∧ q = .int .i64 (mxK k j) ∧ wr.heap[w1.heap.size]? = some (.cells (phA (padL (gen N (fun i => if i < j then G i else l.getD i 0))) N) 52 (0, 0)) ∧ Below w.heap.size w wr) (fun i _ _ _ => N - (intOf i).toNat)
  case atStart => exact ⟨0, Nat.zero_le _, rfl, rfl, by rw [HPZ.out, ← HC.out]; exact HG3.out, HB3.out⟩
  case round =>
    obtain ⟨j, hj, rfl, rfl, hb0, hbel⟩ := hrel
    have hgl : (gen N (fun i => if i < j then G i else l.getD i 0)).length = N := gen_length _ _
    have hpl2 : (padL (gen N (fun i => if i < j then G i else l.getD i 0))).length = 32 := padL_length (by rw [hgl]; exact h32)
    have HB := Lib.hid hbel
    by_cases hlt : j < N
    · have hltl : j < l.length := by rw [← HN.out]; exact hlt
      obtain ⟨hx1, hx2⟩ := HAT.out j hltl
      have hq := HMX.out j
      have hgj : G j = (l.getD j 0 + mxK k j) % 4 := by rw [HG.out]; rfl
      have hnx : mxK k (j + 1) = nxK (mxK k j) := rfl
      have cj : wr.cell? ⟨w1.heap.size, j, none⟩ = some (.int .i64 (l.getD j 0)) := by
        rw [cell_of_row wr _ _ _ _ _ hb0, phA_get _ _ j (by omega), pad_getD _ j (by rw [hgl]; exact hlt), gen_getD _ _ j hlt, if_neg (Nat.lt_irrefl _)]
      have fj : wr.frozen? ⟨w1.heap.size, j, none⟩ = false := frozen_of_row wr _ _ _ _ hb0
      have hset := heap_setCell_same wr w1.heap.size j _ _ (.int .i64 (G j)) hb0
      rw [phA_set _ _ j (by omega), pad_set _ j _ (by rw [hgl]; exact hlt), gen_set, HPN.out j] at hset
      obtain ⟨x, hxd⟩ : ∃ x, x = l.getD j 0 := ⟨_, rfl⟩
      obtain ⟨q, hqd⟩ : ∃ q, q = mxK k j := ⟨_, rfl⟩
      rw [← hxd] at cj hx1 hx2 hgj
      rw [← hqd] at hq hgj hnx ⊢
      rw [hgj] at hset
      have HSET := Lib.hid hset
      have HNX := Lib.hid hnx
      have HNK := Lib.hid (nextKey_any q (by omega))
      have hq0 : (0 : Int) ≤ (q : Int) := by omega
      have hq255 : (q : Int) ≤ 255 := by omega
      have h0 : (0 : Int) ≤ (j : Int) := by omega
      have h1 : (j : Int) < 32 := by omega
      have h1' : (j : Int) < (N : Int) := by omega
      clear hset hgj hxd hgl hpl2 hb0 hbel hnx hqd hltl hq
      go_wp2_with (first
        | (go_at_call 51; refine (modulo_any _ 4 (by omega) (by omega) (by omega) (by omega) _).mono ?_; rintro e w' ⟨rfl, rfl⟩)
        | (refine (HNK.out _).mono ?_; rintro e w' ⟨rfl, rfl⟩))
      go_roundw
      case rel => exact ⟨j + 1, by omega, by go_num, by rw [HNX.out], HSET.out, HB.out.setCell hs1 _⟩
      case measure => simp [intOf]; omega
    · have hje : j = N := by omega
      have he : gen N (fun i => if i < j then G i else l.getD i 0) = gen N G := gen_ext (fun i hi => by rw [if_pos (by omega)])
      rw [he] at hb0 hpl2
      subst hje
      have hpz : (phA (padL (gen j G)) (j : Int)).size = 33 := phA_size _ _ hpl2
      have HL := Lib.hid (fun w => list_any (padL (gen j G)) j hpl2 h32 w)
      have HT := Lib.hid (show (padL (gen j G)).take j = gen j G by unfold padL; rw [List.take_append_of_le_length (by rw [gen_length]; exact Nat.le_refl _), List.take_of_length_le (by rw [gen_length]; exact Nat.le_refl _)])
      have HINFO := Lib.hid (show (Try.prog.info? 52).map (·.size) = some (phA (padL (gen j G)) (j : Int)).size by rw [hpz]; exact infoPh)
      obtain ⟨D, hD⟩ : ∃ D, D = phA (padL (gen j G)) (j : Int) := ⟨_, rfl⟩
      rw [← hD] at HL HINFO hb0
      have HB0 := Lib.hid hb0
      have hsz := hbel.size
      clear he hb0 hpz hD hgl hpl2 hbel
      go_wp2_with (refine wpList_load_row rfl 52 (.tmp 6) rfl w1.heap.size rfl 52 D (0, 0) _ HB0.out Try.underlying52 rfl HINFO.out ?_)
      refine (HL.out _).mono ?_
      rintro e w2 ⟨v2, rfl, ho2, hb2⟩
      rw [HT.out] at ho2
      have HO2 := Lib.hid (Own.mono ho2 hsz)
      have HB2 := Lib.hid (joins HB.out hb2)
      clear ho2 hb2
      go_wp2_with fail
      go_returns
      exact ⟨_, rfl, HO2.out, HB2.out⟩
/-- The opening alone, for what is refused. -/
theorem imixPhases_no (v : Value) (l : List Int) (key : Int) (w : World) (hv : IS w v l) (hlen : l.length ≤ 1048576) (q : Bool) (hq : isSeq l = q) (hno : q = false ∨ (q = true ∧ (key < 1 ∨ 255 < key))) : Calls Try.prog 26 #[v, .int .i64 key] w (MakesB w [] false) := by
  have HP := Lib.hid (phasesOf_any v l w hv hlen)
  have hsz := phC_size l
  have hone := phC_one l
  rw [hq] at HP
  obtain ⟨a, cap, hveq⟩ := hv.slice
  subst hveq
  obtain ⟨C, hC⟩ : ∃ C, C = phC l := ⟨_, rfl⟩
  rw [← hC] at HP hsz hone
  have HSZ := Lib.hid hsz
  have HONE := Lib.hid hone
  clear hv hsz hone hC hq
  rcases hno with rfl | ⟨rfl, hno | hno⟩
  all_goals
    go_enter Try.func26, Try.ntmps26
    go_wp2_with fail
    refine (HP.out).mono ?_
    rintro e w1 ⟨rfl, hb1⟩
    have HB1 := Lib.hid hb1
    have hs1 := hb1.size
    clear hb1
    go_wp2_with (first
      | (refine wpList_alloc_big rfl 52 rfl (phA z32 0) zeroPh ?_)
      | (refine wpList_store_big rfl 52 (.tmp 6) (.tmp 12) rfl w1.heap.size C rfl rfl 52 _ (heap_alloc_new w1 _) 33 infoPh HSZ.out (phA_size _ _ z32_length) HONE.out w.heap.size w (belowa HB1.out _) (by omega) ?_; intro w3 hg3 ho3 hz3 hb3))
    go_returns
    exact ⟨_, rfl, World.ownsRow_nil _ _ _ _, ‹Below w.heap.size w _›⟩
theorem imixPhases (v : Value) (l : List Int) (key : Int) (w : World) (hv : IS w v l) (hlen : l.length ≤ 1048576) : Calls Try.prog 26 #[v, .int .i64 key] w (MakesB w (miF l key) (miOk l key)) := by
  have hok : miOk l key = (isSeq l && inB key 1 255) := rfl
  cases hs : isSeq l with
  | true =>
    cases hk : inB key 1 255 with
    | true =>
      have ho : miOk l key = true := by rw [hok, hs, hk]; rfl
      have hf : miF l key = gen l.length (miT l key.toNat) := by unfold miF; rw [ho]; rfl
      have h1 : 1 ≤ key ∧ key ≤ 255 := by simpa [inB] using hk
      rw [ho, hf]
      have := imixPhases_in v l key.toNat w hv hs (by omega) (by omega)
      rwa [show ((key.toNat : Nat) : Int) = key by omega] at this
    | false =>
      have ho : miOk l key = false := by rw [hok, hs, hk]; rfl
      have hf : miF l key = [] := by unfold miF; rw [ho]; rfl
      rw [ho, hf]
      exact imixPhases_no v l key w hv hlen true hs (Or.inr ⟨rfl, by simp [inB] at hk; omega⟩)
  | false =>
    have ho : miOk l key = false := by rw [hok, hs]; rfl
    have hf : miF l key = [] := by unfold miF; rw [ho]; rfl
    rw [ho, hf]
    exact imixPhases_no v l key w hv hlen false hs (Or.inl rfl)
end Go.Proofs.Ytoehehaeanepmaa
