/- The model's FromSteps, ErrorsOf, MixPhases. -/
import Derived.Test.YtoehehaeanepmaaSMo
namespace Go.Proofs.Ytoehehaeanepmaa
set_option maxRecDepth 100000
open Go.RowKit

set_option maxRecDepth 100000 in
set_option maxHeartbeats 2000000 in
theorem sFromSteps (v : Value) (l : List Int) (w : World) (hv : IS w v l) (hlen : l.length ≤ 1048576) : Calls Try.prog 21 #[v] w (MakesB w (fsF l) (isSeq l)) := by
  have HP := Lib.hid (phIs_any v l w hv hlen)
  obtain ⟨a, cap, hveq⟩ := hv.slice
  subst hveq
  cases hs : isSeq l with
  | true =>
    have hf : fsF l = fsL 0 l := by unfold fsF; rw [hs]; rfl
    have h32 := isSeq_len hs
    have HAT := Lib.hid (fun k hk => allIn_getD (isSeq_all hs) k hk)
    have HFI := Lib.hid (fun k => fsN_in 0 (by decide) l k)
    have HV := Lib.hid hv
    rw [hf]
    rw [hs] at HP
    obtain ⟨N, hN⟩ : ∃ N, N = l.length := ⟨_, rfl⟩
    obtain ⟨G, hG⟩ : ∃ G : Nat → Int, G = fun i => fsN 0 l (i + 1) := ⟨_, rfl⟩
    have hgoal : fsL 0 l = gen N G := by rw [hN, hG]; rfl
    rw [hgoal]
    rw [← hN] at HP HV h32 ⊢
    have HN := Lib.hid hN
    have HG := Lib.hid hG
    clear hgoal hN hG hf hs hv hlen
    go_enter Try.func21, Try.ntmps21
    go_wp2_with fail
    refine (HP.out).mono ?_
    rintro e w1 ⟨rfl, hb1⟩
    have HB1 := Lib.hid hb1
    clear hb1
    go_wp2_with fail
    go_loopw [13, 5, 7, 4] (fun i bf _ o wr => ∃ j : Nat, j ≤ N ∧ i = .int .i64 j ∧ bf = .int .i64 (fsN 0 l j) ∧ Own wr w.heap.size o (gen j G) ∧ Below w.heap.size w wr) (fun i _ _ _ _ => N - (intOf i).toNat)
    case atStart => exact ⟨0, Nat.zero_le _, rfl, rfl, World.ownsRow_nil _ _ _ _, HB1.out⟩
    case round =>
      obtain ⟨j, hj, rfl, rfl, hown, hbel⟩ := hrel
      by_cases hlt : j < N
      · have hltl : j < l.length := by rw [← HN.out]; exact hlt
        rcases HV.out.below hbel with ⟨h0', _⟩ | ⟨_, b, off, cap', hveq, _, hc⟩
        · rw [h0'] at hltl; exact absurd hltl (Nat.not_lt_zero _)
        simp only [Value.slice.injEq] at hveq
        obtain ⟨rfl, hnn, rfl⟩ := hveq
        clear hnn
        have c1 := hc j hltl
        clear hc
        obtain ⟨hx1, hx2⟩ := HAT.out j hltl
        obtain ⟨hy1, hy2⟩ := HFI.out j
        have hgj : G j = (fsN 0 l j + l.getD j 0) % 4 := by rw [HG.out]; rfl
        have hbs : fsN 0 l (j + 1) = (fsN 0 l j + l.getD j 0) % 4 := rfl
        obtain ⟨x, hxd⟩ : ∃ x, x = l.getD j 0 := ⟨_, rfl⟩
        obtain ⟨y, hyd⟩ : ∃ y, y = fsN 0 l j := ⟨_, rfl⟩
        rw [← hxd] at c1 hx1 hx2 hgj hbs
        rw [← hyd] at hy1 hy2 hgj hbs ⊢
        have hgs := gen_succ j G
        rw [hgj] at hgs
        have HGS := Lib.hid hgs
        have HBS := Lib.hid hbs
        have HGL := Lib.hid (show (gen j G).length ≤ 1048576 by rw [gen_length]; omega)
        have HO := Lib.hid hown
        have HB := Lib.hid hbel
        have h0 : (0 : Int) ≤ (j : Int) := by omega
        have h1 : (j : Int) < (N : Int) := by omega
        clear hxd hyd hgj hgs hbs hown hbel
        go_wp2_with (first
          | (go_at_call 46; refine (phMod_any _ (by omega) (by omega) _).mono ?_; rintro e w' ⟨rfl, rfl⟩)
          | (at_builtin; refine wpList_push rfl _ _ rfl w.heap.size _ (gen j G) rfl (HO.out.alloc _) wr.heap.size 1 ((y + x) % 4) rfl (by simp) HGL.out w.heap.size w (HB.out.alloc HB.out.size _) (Nat.le_refl _) (by have := HB.out.size; simp; omega) (by have := HB.out.size; simp; omega) ?_; intro v2 w2 ho2 hb2))
        go_roundw
        case rel => exact ⟨j + 1, by omega, by go_num, by rw [HBS.out], by rw [HGS.out]; assumption, by assumption⟩
        case measure => simp [intOf]; omega
      · obtain rfl : j = N := by omega
        have HO := Lib.hid hown
        have HB := Lib.hid hbel
        clear hown hbel
        go_wp2_with fail
        go_returns
        exact ⟨_, rfl, HO.out, HB.out⟩
  | false =>
    have hf : fsF l = [] := by unfold fsF; rw [hs]; rfl
    rw [hf]
    rw [hs] at HP
    clear hf hs
    go_enter Try.func21, Try.ntmps21
    go_wp2_with fail
    refine (HP.out).mono ?_
    rintro e w1 ⟨rfl, hb1⟩
    go_wp2_with fail
    go_returns
    exact ⟨_, rfl, World.ownsRow_nil _ _ _ _, hb1⟩

/-! ### errors -/
set_option maxRecDepth 100000 in
set_option maxHeartbeats 2000000 in
theorem sErrorsOf (va vb : Value) (a b : List Int) (w : World) (hva : IS w va a) (hvb : IS w vb b) (hla : a.length ≤ 1048576) (hlb : b.length ≤ 1048576) : Calls Try.prog 23 #[va, vb] w (Ret w (.tuple #[.int .i64 (erV a b), .bool (erOk a b)])) := by
  have HA := Lib.hid (fun w h => mdBits_any va a w h hla)
  have HB' := Lib.hid (fun w h => mdBits_any vb b w h hlb)
  obtain ⟨pa, ca, rfl⟩ := hva.slice
  obtain ⟨pb, cb, rfl⟩ := hvb.slice
  have HVA := Lib.hid hva
  have HVB := Lib.hid hvb
  have hok : erOk a b = (bsOk a && bsOk b && decide (a.length = b.length)) := rfl
  cases ha : bsOk a with
  | false =>
    have ho : erOk a b = false := by rw [hok, ha]; rfl
    have hv : erV a b = 0 := by unfold erV; rw [ho]; rfl
    rw [ho, hv]
    rw [ha] at HA
    clear ho hv hok ha hva hvb hla hlb
    go_enter Try.func23, Try.ntmps23
    go_wp2_with fail
    refine (HA.out _ HVA.out).mono ?_
    rintro e w1 ⟨rfl, hb1⟩
    go_wp2_with fail
    go_returns
    exact ⟨rfl, hb1⟩
  | true =>
    rw [ha] at HA
    cases hb : bsOk b with
    | false =>
      have ho : erOk a b = false := by rw [hok, ha, hb]; rfl
      have hv : erV a b = 0 := by unfold erV; rw [ho]; rfl
      rw [ho, hv]
      rw [hb] at HB'
      clear ho hv hok ha hb hva hvb hla hlb
      go_enter Try.func23, Try.ntmps23
      go_wp2_with fail
      refine (HA.out _ HVA.out).mono ?_
      rintro e w1 ⟨rfl, hb1⟩
      go_wp2_with fail
      refine (HB'.out _ (HVB.out.below hb1)).mono ?_
      rintro e w2 ⟨rfl, hb2⟩
      have hb3 := joins hb1 hb2
      go_wp2_with fail
      go_returns
      exact ⟨rfl, hb3⟩
    | true =>
      rw [hb] at HB'
      have HATA := Lib.hid (fun k hk => bsOk_at ha k hk)
      have HATB := Lib.hid (fun k hk => bsOk_at hb k hk)
      have HER := Lib.hid (fun k => erN_in a b k)
      have h64 := bsOk_len ha
      by_cases hl : a.length = b.length
      · have ho : erOk a b = true := by rw [hok, ha, hb, decide_eq_true hl]; rfl
        have hv : erV a b = erN a b a.length := by unfold erV; rw [ho]; rfl
        rw [ho, hv]
        obtain ⟨N, hN⟩ : ∃ N, N = a.length := ⟨_, rfl⟩
        rw [← hl] at HVB HB' ⊢
        rw [← hN] at HVA HVB HA HB' h64 ⊢
        have HN := Lib.hid hN
        have HNB := Lib.hid (hN.trans hl)
        clear ho hv hok ha hb hva hvb hla hlb hl hN
        go_enter Try.func23, Try.ntmps23
        go_wp2_with fail
        refine (HA.out _ HVA.out).mono ?_
        rintro e w1 ⟨rfl, hb1⟩
        have HB1 := Lib.hid hb1
        clear hb1
        go_wp2_with fail
        refine (HB'.out _ (HVB.out.below HB1.out)).mono ?_
        rintro e w2 ⟨rfl, hb2⟩
        have HB2 := Lib.hid (joins HB1.out hb2)
        clear hb2
        go_wp2_with fail
        go_loopw [26, 6, 7, 8] (fun i n _ _ wr => ∃ j : Nat, j ≤ N ∧ i = .int .i64 j ∧ n = .int .i64 (erN a b j) ∧ Below w.heap.size w wr) (fun i _ _ _ _ => N - (intOf i).toNat)
        case atStart => exact ⟨0, Nat.zero_le _, rfl, rfl, HB2.out⟩
        case round =>
          obtain ⟨j, hj, rfl, rfl, hbel⟩ := hrel
          have HB := Lib.hid hbel
          by_cases hlt : j < N
          · have hltl : j < a.length := by rw [← HN.out]; exact hlt
            have hltb : j < b.length := by rw [← HNB.out]; exact hlt
            rcases HVA.out.below hbel with ⟨h0', _⟩ | ⟨_, ba, oa, cap', hveq, _, hc⟩
            · rw [h0'] at hltl; exact absurd hltl (Nat.not_lt_zero _)
            simp only [Value.slice.injEq] at hveq
            obtain ⟨rfl, hnn, rfl⟩ := hveq
            rcases HVB.out.below hbel with ⟨h0', _⟩ | ⟨_, bb, ob, cap', hveq, _, hc2⟩
            · rw [h0'] at hltb; exact absurd hltb (Nat.not_lt_zero _)
            simp only [Value.slice.injEq] at hveq
            obtain ⟨rfl, hnn2, rfl⟩ := hveq
            clear hnn hnn2
            have c1 := hc j hltl
            have c2 := hc2 j hltb
            obtain ⟨hx1, hx2⟩ := HATA.out j hltl
            obtain ⟨hy1, hy2⟩ := HATB.out j hltb
            obtain ⟨he1, he2⟩ := HER.out j
            have hes : erN a b (j + 1) = erN a b j + (a.getD j 0 + b.getD j 0) % 2 := rfl
            obtain ⟨x, hxd⟩ : ∃ x, x = a.getD j 0 := ⟨_, rfl⟩
            obtain ⟨y, hyd⟩ : ∃ x, x = b.getD j 0 := ⟨_, rfl⟩
            obtain ⟨z, hzd⟩ : ∃ z, z = erN a b j := ⟨_, rfl⟩
            rw [← hxd] at c1 hx1 hx2 hes
            rw [← hyd] at c2 hy1 hy2 hes
            rw [← hzd] at he1 he2 hes ⊢
            have hm : (x + y).tmod 2 = (x + y) % 2 := Int.tmod_eq_emod_of_nonneg (by omega)
            have hq : 0 ≤ (x + y) % 2 ∧ (x + y) % 2 ≤ 1 := by omega
            obtain ⟨r, hr⟩ : ∃ r, r = (x + y) % 2 := ⟨_, rfl⟩
            rw [← hr] at hm hq hes
            obtain ⟨hq1, hq2⟩ := hq
            have hz64 : z ≤ 64 := by omega
            have HES := Lib.hid hes
            have h0 : (0 : Int) ≤ (j : Int) := by omega
            have h1 : (j : Int) < (N : Int) := by omega
            clear hc hc2 hxd hyd hzd hes hr hbel he2
            go_wp2_with fail
            go_roundw
            case rel => exact ⟨j + 1, by omega, by go_num, by rw [HES.out], HB.out⟩
            case measure => simp [intOf]; omega
          · obtain rfl : j = N := by omega
            clear hbel
            go_wp2_with fail
            go_returns
            exact ⟨rfl, HB.out⟩
      · have ho : erOk a b = false := by rw [hok, ha, hb, decide_eq_false hl]; rfl
        have hv : erV a b = 0 := by unfold erV; rw [ho]; rfl
        rw [ho, hv]
        obtain ⟨N, hN⟩ : ∃ N, N = a.length := ⟨_, rfl⟩
        obtain ⟨M, hM⟩ : ∃ N, N = b.length := ⟨_, rfl⟩
        rw [← hN] at HVA HA hl ⊢
        rw [← hM] at HVB HB' hl ⊢
        have hn : ((N : Int) != (M : Int)) = true := by simp; omega
        clear ho hv hok ha hb hva hvb hla hlb hl hN hM h64 HATA HATB HER
        go_enter Try.func23, Try.ntmps23
        go_wp2_with fail
        refine (HA.out _ HVA.out).mono ?_
        rintro e w1 ⟨rfl, hb1⟩
        go_wp2_with fail
        refine (HB'.out _ (HVB.out.below hb1)).mono ?_
        rintro e w2 ⟨rfl, hb2⟩
        have hb3 := joins hb1 hb2
        go_wp2_with fail
        go_returns
        exact ⟨rfl, hb3⟩
/-! ### mixed phases -/
set_option maxRecDepth 100000 in
set_option maxHeartbeats 2000000 in
theorem smixPhases_in (v : Value) (l : List Int) (k : Nat) (w : World) (hv : IS w v l) (hs : isSeq l = true) (hk1 : 1 ≤ k) (hk : k ≤ 255) : Calls Try.prog 25 #[v, .int .i64 k] w (MakesB w (gen l.length (miT l k)) true) := by
  have h32 := isSeq_len hs
  have HP := Lib.hid (phIs_any v l w hv (by omega))
  have HIN := Lib.hid (l1In_any (k : Int) 1 255)
  have hin : inB (k : Int) 1 255 = true := by simp [inB]; omega
  rw [hin] at HIN
  rw [hs] at HP
  obtain ⟨a, cap, hveq⟩ := hv.slice
  subst hveq
  have HAT := Lib.hid (fun j hj => allIn_getD (isSeq_all hs) j hj)
  have HMX := Lib.hid (fun j => mxK_in k (by omega) j)
  have HV := Lib.hid hv
  obtain ⟨N, hN⟩ : ∃ N, N = l.length := ⟨_, rfl⟩
  obtain ⟨G, hG⟩ : ∃ G : Nat → Int, G = miT l k := ⟨_, rfl⟩
  rw [← hG]
  rw [← hN] at HP HV h32 ⊢
  have HN := Lib.hid hN
  have HG := Lib.hid hG
  clear hN hG hs hv hin
  go_enter Try.func25, Try.ntmps25
  go_wp2_with fail
  refine (HP.out).mono ?_
  rintro e w1 ⟨rfl, hb1⟩
  have HB1 := Lib.hid hb1
  clear hb1
  go_wp2_with fail
  refine (HIN.out _).mono ?_
  rintro e w2 ⟨rfl, rfl⟩
  go_wp2_with fail
  go_loopw [20, 1, 8, 9, 6] (fun i q _ _ o wr => ∃ j : Nat, j ≤ N ∧ i = .int .i64 j ∧ q = .int .i64 (mxK k j) ∧ Own wr w.heap.size o (gen j G) ∧ Below w.heap.size w wr) (fun i _ _ _ _ _ => N - (intOf i).toNat)
  case atStart => exact ⟨0, Nat.zero_le _, rfl, rfl, World.ownsRow_nil _ _ _ _, HB1.out⟩
  case round =>
    obtain ⟨j, hj, rfl, rfl, hown, hbel⟩ := hrel
    by_cases hlt : j < N
    · have hltl : j < l.length := by rw [← HN.out]; exact hlt
      rcases HV.out.below hbel with ⟨h0', _⟩ | ⟨_, b, off, cap', hveq, _, hc⟩
      · rw [h0'] at hltl; exact absurd hltl (Nat.not_lt_zero _)
      simp only [Value.slice.injEq] at hveq
      obtain ⟨rfl, hnn, rfl⟩ := hveq
      clear hnn
      have c1 := hc j hltl
      clear hc
      obtain ⟨hx1, hx2⟩ := HAT.out j hltl
      have hq := HMX.out j
      have hgj : G j = (l.getD j 0 + mxK k j) % 4 := by rw [HG.out]; rfl
      have hnx : mxK k (j + 1) = nxK (mxK k j) := rfl
      obtain ⟨x, hxd⟩ : ∃ x, x = l.getD j 0 := ⟨_, rfl⟩
      obtain ⟨q, hqd⟩ : ∃ q, q = mxK k j := ⟨_, rfl⟩
      rw [← hxd] at c1 hx1 hx2 hgj
      rw [← hqd] at hq hgj hnx ⊢
      have h4 : (q : Int).tmod 4 = (q : Int) % 4 := Int.tmod_eq_emod_of_nonneg (by omega)
      obtain ⟨r, hr⟩ : ∃ r : Int, r = (q : Int) % 4 := ⟨_, rfl⟩
      have hr1 : 0 ≤ r ∧ r ≤ 3 := by omega
      rw [show (x + (q : Int)) % 4 = (x + r) % 4 by omega] at hgj
      rw [← hr] at h4
      obtain ⟨hr1, hr2⟩ := hr1
      have hd : (q : Int).tdiv 2 = ((q / 2 : Nat) : Int) := by rw [Int.tdiv_eq_ediv_of_nonneg (by omega)]; omega
      have h2 : (q : Int).tmod 2 = ((q % 2 : Nat) : Int) := by rw [Int.tmod_eq_emod_of_nonneg (by omega)]; omega
      have hxo := xor184 (q / 2) (by omega)
      have hnq : nxK q = if q % 2 = 1 then (q / 2) ^^^ 184 else q / 2 := rfl
      obtain ⟨h, hh⟩ : ∃ h, h = q / 2 := ⟨_, rfl⟩
      rw [← hh] at hd hxo hnq
      have hh1 : (h : Int) ≤ 127 := by omega
      have hgs := gen_succ j G
      rw [hgj] at hgs
      rw [hnq] at hnx
      have hq0 : (0 : Int) ≤ (q : Int) := by omega
      have hq255 : (q : Int) ≤ 255 := by omega
      have HGS := Lib.hid hgs
      have HNX := Lib.hid hnx
      have HGL := Lib.hid (show (gen j G).length ≤ 1048576 by rw [gen_length]; omega)
      have HO := Lib.hid hown
      have HB := Lib.hid hbel
      have h0 : (0 : Int) ≤ (j : Int) := by omega
      have h1 : (j : Int) < (N : Int) := by omega
      clear hxd hgj hgs hnx hown hbel hr hnq hqd hq hh
      by_cases hodd : q % 2 = 1
      · rw [hodd] at h2
        have HOD := Lib.hid hodd
        clear hodd
        go_wp2_with (first
          | (go_at_call 46; refine (phMod_any _ (by omega) (by omega) _).mono ?_; rintro e w' ⟨rfl, rfl⟩)
          | (at_builtin; refine wpList_push rfl _ _ rfl w.heap.size _ (gen j G) rfl (HO.out.alloc _) wr.heap.size 1 ((x + r) % 4) rfl (by simp) HGL.out w.heap.size w (HB.out.alloc HB.out.size _) (Nat.le_refl _) (by have := HB.out.size; simp; omega) (by have := HB.out.size; simp; omega) ?_; intro v2 w2 ho2 hb2))
        go_roundw
        case rel => exact ⟨j + 1, by omega, by go_num, by rw [HNX.out, if_pos HOD.out], by rw [HGS.out]; assumption, by assumption⟩
        case measure => simp [intOf]; omega
      · have h20 : q % 2 = 0 := by omega
        rw [h20] at h2
        have HOD := Lib.hid hodd
        clear hodd h20
        go_wp2_with (first
          | (go_at_call 46; refine (phMod_any _ (by omega) (by omega) _).mono ?_; rintro e w' ⟨rfl, rfl⟩)
          | (at_builtin; refine wpList_push rfl _ _ rfl w.heap.size _ (gen j G) rfl (HO.out.alloc _) wr.heap.size 1 ((x + r) % 4) rfl (by simp) HGL.out w.heap.size w (HB.out.alloc HB.out.size _) (Nat.le_refl _) (by have := HB.out.size; simp; omega) (by have := HB.out.size; simp; omega) ?_; intro v2 w2 ho2 hb2))
        go_roundw
        case rel => exact ⟨j + 1, by omega, by go_num, by rw [HNX.out, if_neg HOD.out], by rw [HGS.out]; assumption, by assumption⟩
        case measure => simp [intOf]; omega
    · obtain rfl : j = N := by omega
      have HO := Lib.hid hown
      have HB := Lib.hid hbel
      clear hown hbel
      go_wp2_with fail
      go_returns
      exact ⟨_, rfl, HO.out, HB.out⟩
theorem smixPhases (v : Value) (l : List Int) (key : Int) (w : World) (hv : IS w v l) (hlen : l.length ≤ 1048576) : Calls Try.prog 25 #[v, .int .i64 key] w (MakesB w (miF l key) (miOk l key)) := by
  have hok : miOk l key = (isSeq l && inB key 1 255) := rfl
  have HP := Lib.hid (phIs_any v l w hv hlen)
  have HIN := Lib.hid (l1In_any key 1 255)
  cases hs : isSeq l with
  | true =>
    cases hk : inB key 1 255 with
    | true =>
      have ho : miOk l key = true := by rw [hok, hs, hk]; rfl
      have hf : miF l key = gen l.length (miT l key.toNat) := by unfold miF; rw [ho]; rfl
      have h1 : 1 ≤ key ∧ key ≤ 255 := by simpa [inB] using hk
      rw [ho, hf]
      have := smixPhases_in v l key.toNat w hv hs (by omega) (by omega)
      rwa [show ((key.toNat : Nat) : Int) = key by omega] at this
    | false =>
      have ho : miOk l key = false := by rw [hok, hs, hk]; rfl
      have hf : miF l key = [] := by unfold miF; rw [ho]; rfl
      rw [ho, hf]
      rw [hs] at HP
      rw [hk] at HIN
      obtain ⟨a, cap, hveq⟩ := hv.slice
      subst hveq
      clear ho hf hok hs hk hv
      go_enter Try.func25, Try.ntmps25
      go_wp2_with fail
      refine (HP.out).mono ?_
      rintro e w1 ⟨rfl, hb1⟩
      go_wp2_with fail
      refine (HIN.out _).mono ?_
      rintro e w2 ⟨rfl, rfl⟩
      go_wp2_with fail
      go_returns
      exact ⟨_, rfl, World.ownsRow_nil _ _ _ _, hb1⟩
  | false =>
    have ho : miOk l key = false := by rw [hok, hs]; rfl
    have hf : miF l key = [] := by unfold miF; rw [ho]; rfl
    rw [ho, hf]
    rw [hs] at HP
    obtain ⟨a, cap, hveq⟩ := hv.slice
    subst hveq
    clear ho hf hok hs hv
    go_enter Try.func25, Try.ntmps25
    go_wp2_with fail
    refine (HP.out).mono ?_
    rintro e w1 ⟨rfl, hb1⟩
    go_wp2_with fail
    go_returns
    exact ⟨_, rfl, World.ownsRow_nil _ _ _ _, hb1⟩
end Go.Proofs.Ytoehehaeanepmaa
