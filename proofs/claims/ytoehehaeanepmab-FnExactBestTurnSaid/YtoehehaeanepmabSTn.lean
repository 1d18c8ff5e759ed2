/- The model's BestTurn. -/
import Derived.Test.YtoehehaeanepmabTnM
import Derived.Test.YtoehehaeanepmabSMd
namespace Go.Proofs.Ytoehehaeanepmab
set_option maxRecDepth 100000
open Go.RowKit

set_option maxRecDepth 100000 in
set_option maxHeartbeats 4000000 in
theorem sBestTurn (va vb : Value) (l : List (Int × Int)) (known : List Int) (w : World) (hva : IG w va l) (hvb : IS w vb known) (hla : l.length ≤ 1048576) (hlb : known.length ≤ 1048576) : Calls Try.prog 22 #[va, vb] w (Ret w (.tuple #[.int .i64 (beV l known), .bool (beOk l known)])) := by
  have HP := Lib.hid (mdSignal_any va l w hva hla)
  have HK := Lib.hid (fun w h => phIs_any vb known w h hlb)
  obtain ⟨pa, ca, rfl⟩ := hva.slice
  obtain ⟨pb, cb, rfl⟩ := hvb.slice
  have HVA := Lib.hid hva
  have HVB := Lib.hid hvb
  have hok : beOk l known = (sgOk l && isSeq known && decide (known.length = l.length) && dcN (gre l) (gim l) l.length) := rfl
  cases h1 : sgOk l with
  | false =>
    have ho : beOk l known = false := by rw [hok, h1]; rfl
    have hv : beV l known = 0 := by unfold beV; rw [ho]; rfl
    rw [ho, hv]
    rw [h1] at HP
    clear ho hv hok h1 hva hvb hla hlb
    go_enter Try.func22, Try.ntmps22
    go_wp2_with fail
    refine (HP.out).mono ?_
    rintro e w1 ⟨rfl, hb1⟩
    go_wp2_with fail
    go_returns
    exact ⟨rfl, hb1⟩
  | true =>
  rw [h1] at HP
  cases h2 : isSeq known with
  | false =>
    have ho : beOk l known = false := by rw [hok, h2, Bool.and_false]; rfl
    have hv : beV l known = 0 := by unfold beV; rw [ho]; rfl
    rw [ho, hv]
    rw [h2] at HK
    clear ho hv hok h1 h2 hva hvb hla hlb
    go_enter Try.func22, Try.ntmps22
    go_wp2_with fail
    refine (HP.out).mono ?_
    rintro e w1 ⟨rfl, hb1⟩
    go_wp2_with fail
    refine (HK.out _ (HVB.out.below hb1)).mono ?_
    rintro e w2 ⟨rfl, hb2⟩
    have hb3 := joins hb1 hb2
    go_wp2_with fail
    go_returns
    exact ⟨rfl, hb3⟩
  | true =>
  rw [h2] at HK
  by_cases h3 : known.length = l.length
  case neg =>
    have ho : beOk l known = false := by rw [hok, decide_eq_false h3, Bool.and_false]; rfl
    have hv : beV l known = 0 := by unfold beV; rw [ho]; rfl
    rw [ho, hv]
    obtain ⟨N, hN⟩ : ∃ N, N = l.length := ⟨_, rfl⟩
    obtain ⟨M, hM⟩ : ∃ N, N = known.length := ⟨_, rfl⟩
    rw [← hN] at HP HVA h3 ⊢
    rw [← hM] at HK HVB h3 ⊢
    have hn : ((M : Int) != (N : Int)) = true := by simp; omega
    clear ho hv hok h1 h2 hva hvb hla hlb h3 hN hM
    go_enter Try.func22, Try.ntmps22
    go_wp2_with fail
    refine (HP.out).mono ?_
    rintro e w1 ⟨rfl, hb1⟩
    go_wp2_with fail
    refine (HK.out _ (HVB.out.below hb1)).mono ?_
    rintro e w2 ⟨rfl, hb2⟩
    have hb3 := joins hb1 hb2
    go_wp2_with fail
    go_returns
    exact ⟨rfl, hb3⟩
  have hgl := sgOk_good h1
  have h48 := sgOk_len h1
  have HMT := Lib.hid (fun (k : Nat) (hk : k < 4) w h => mdTurn_any (.slice pa l.length ca) l (k : Int) w h hgl (by omega) (by omega))
  have HMD := Lib.hid (fun (k : Nat) (hk : k < 4) v w h => mdDecide_any v (tuL l k) w h (by rw [tuL_len]; exact h48) (tuL_good hgl (by omega)))
  cases h4 : dcN (gre l) (gim l) l.length with
  | false =>
    have ho : beOk l known = false := by rw [hok, h4, Bool.and_false]
    have hv : beV l known = 0 := by unfold beV; rw [ho]; rfl
    rw [ho, hv]
    have HMT0 := Lib.hid (HMT.out 0 (by omega))
    have HMD0 := Lib.hid (show ∀ v w, IG w v (tuL l ((0 : Nat) : Int)) → Calls Try.prog 46 #[v] w (MakesB w [] false) from fun v w h => by
      have := HMD.out 0 (by omega) v w h
      rw [dcN_turn l 0 (by omega), h4] at this
      unfold dcL at this
      rw [dcN_turn l 0 (by omega), h4] at this
      exact this)
    rw [h3] at HK HVB ⊢
    obtain ⟨N, hN⟩ : ∃ N, N = l.length := ⟨_, rfl⟩
    rw [← hN] at HP HVA HK HVB HMT0 ⊢
    clear ho hv hok h1 h2 hva hvb hla hlb h3 h4 hN HMT HMD hgl h48
    go_enter Try.func22, Try.ntmps22
    go_wp2_with fail
    refine (HP.out).mono ?_
    rintro e w1 ⟨rfl, hb1⟩
    have HB1 := Lib.hid hb1
    clear hb1
    go_wp2_with fail
    refine (HK.out _ (HVB.out.below HB1.out)).mono ?_
    rintro e w2 ⟨rfl, hb2⟩
    have HB2 := Lib.hid (joins HB1.out hb2)
    clear hb2
    go_wp2_with fail
    go_loopw [8] (fun kk wr => kk = .int .i64 0 ∧ wr = w2) (fun _ _ => 0)
    case atStart => exact ⟨rfl, rfl⟩
    case round =>
      obtain ⟨rfl, rfl⟩ := hrel
      go_wp2_with fail
      refine (HMT0.out _ (HVA.out.below HB2.out)).mono ?_
      rintro e w3 ⟨v3, rfl, ho3, hb3⟩
      have HO3 := Lib.hid ho3
      have HB3 := Lib.hid (joins HB2.out hb3)
      clear ho3 hb3
      go_wp2_with fail
      refine (HMD0.out _ _ HO3.out.is).mono ?_
      rintro e w4 ⟨v4, rfl, ho4, hb4⟩
      have HB4 := Lib.hid (joins HB3.out hb4)
      clear ho4 hb4
      go_wp2_with fail
      go_returns
      exact ⟨rfl, HB4.out⟩
  | true =>
  have ho : beOk l known = true := by rw [hok, h1, h2, decide_eq_true h3, h4]; rfl
  obtain ⟨f, hf⟩ : ∃ f, f = beC l known l.length := ⟨_, rfl⟩
  obtain ⟨F, hF⟩ : ∃ F, F = tnF l known := ⟨_, rfl⟩
  have hv : beV l known = ((btN f 4).1 : Int) := by unfold beV; rw [ho, hf]; rfl
  rw [ho, hv]
  obtain ⟨G, hG⟩ : ∃ G : Nat → Nat → Int, G = fun (k i : Nat) => (dcT (gre l) (gim l) i + (k : Int)) % 4 := ⟨_, rfl⟩
  have HMD1 := Lib.hid (show ∀ (k : Nat), k < 4 → ∀ v w, IG w v (tuL l (k : Int)) → Calls Try.prog 46 #[v] w (MakesB w (gen l.length (G k)) true) from fun k hk v w h => by
    have := HMD.out k hk v w h
    rw [dcN_turn l k hk, h4, dcL_turn h4 k hk] at this
    rw [hG]
    exact this)
  have HIF := Lib.hid (fun (i : Nat) (hi : i < l.length) (k : Nat) (hk : k < 4) => show G k i = known.getD i 0 ↔ F i = (k : Int) from by rw [hG, hF]; exact tnF_iff l known i k hk (allIn_getD (isSeq_all h2) i (by omega)))
  have HFC := Lib.hid (fun (k : Nat) => show cnN F (k : Int) l.length = f k from by rw [hf, hF]; rfl)
  have HBI := Lib.hid (fun k => btN_in f k)
  have HCL := Lib.hid (fun (k : Nat) j => cnN_le F (k : Int) j)
  rw [h3] at HK HVB ⊢
  have HLK := Lib.hid h3
  obtain ⟨N, hN⟩ : ∃ N, N = l.length := ⟨_, rfl⟩
  rw [← hN] at HP HVA HK HVB HMT HMD1 HIF HFC HLK h48 ⊢
  have hN48 : (N : Int) ≤ 48 := by omega
  clear ho hv hok h1 h2 hva hvb hla hlb h3 h4 hN HMD hgl hf hF hG
  go_enter Try.func22, Try.ntmps22
  go_wp2_with fail
  refine (HP.out).mono ?_
  rintro e w1 ⟨rfl, hb1⟩
  have HB1 := Lib.hid hb1
  clear hb1
  go_wp2_with fail
  refine (HK.out _ (HVB.out.below HB1.out)).mono ?_
  rintro e w2 ⟨rfl, hb2⟩
  have HB2 := Lib.hid (joins HB1.out hb2)
  clear hb2
  go_wp2_with fail
  go_loopw [8, 6, 7] (fun kk best most wr => ∃ k : Nat, k ≤ 4 ∧ kk = .int .i64 k ∧ best = .int .i64 ((btN f k).1 : Int) ∧ most = .int .i64 (btN f k).2 ∧ Below w.heap.size w wr) (fun kk _ _ _ => 4 - (intOf kk).toNat)
  case atStart => exact ⟨0, by omega, rfl, rfl, rfl, HB2.out⟩
  case round =>
    obtain ⟨k, hk, rfl, rfl, rfl, hbel⟩ := hrel
    by_cases hlt : k < 4
    · have HB := Lib.hid hbel
      have hbt : btN f (k + 1) = if (btN f k).2 < (f k : Int) then (k, (f k : Int)) else btN f k := rfl
      have hbi := HBI.out k
      obtain ⟨bb, hbb⟩ : ∃ b, b = (btN f k).1 := ⟨_, rfl⟩
      obtain ⟨mm, hmm⟩ : ∃ b, b = (btN f k).2 := ⟨_, rfl⟩
      have HBT := Lib.hid (show (btN f (k + 1)).1 = (if mm < (f k : Int) then k else bb) ∧ (btN f (k + 1)).2 = (if mm < (f k : Int) then (f k : Int) else mm) from by
        rw [hbt, ← hmm]
        by_cases h : mm < (f k : Int)
        · rw [if_pos h, if_pos h, if_pos h]; exact ⟨rfl, rfl⟩
        · rw [if_neg h, if_neg h, if_neg h]; exact ⟨hbb.symm, hmm.symm⟩)
      have hfk : cnN F (k : Int) N = f k := HFC.out k
      have hfl := HCL.out k N
      rw [hfk] at hfl
      rw [← hbb, ← hmm] at hbi ⊢
      obtain ⟨hbi1, hbi2⟩ := hbi
      obtain ⟨fk, hfkd⟩ : ∃ x, x = f k := ⟨_, rfl⟩
      rw [← hfkd] at HBT hfk hfl
      have HFK := Lib.hid hfk
      have HMTk := Lib.hid (HMT.out k hlt)
      have HMDk := Lib.hid (HMD1.out k hlt)
      have HIFk := Lib.hid (fun i hi => HIF.out i hi k hlt)
      have HCLk := Lib.hid (HCL.out k)
      obtain ⟨Gk, hGk⟩ : ∃ g, g = G k := ⟨_, rfl⟩
      rw [← hGk] at HMDk HIFk
      have h0 : (0 : Int) ≤ (k : Int) := by omega
      have h1 : (k : Int) < 4 := by omega
      clear hbel hbt hbb hmm hfkd hGk hfk
      go_wp2_with fail
      refine (HMTk.out _ (HVA.out.below HB.out)).mono ?_
      rintro e w3 ⟨v3, rfl, ho3, hb3⟩
      have HO3 := Lib.hid ho3
      have HB3 := Lib.hid (joins HB.out hb3)
      clear ho3 hb3
      go_wp2_with fail
      refine (HMDk.out _ _ HO3.out.is).mono ?_
      rintro e w4 ⟨v4, rfl, ho4, hb4⟩
      have HB4 := Lib.hid (joins HB3.out hb4)
      have HO4 := Lib.hid ho4.is
      obtain ⟨a4, c4, hv4⟩ : ∃ a c, v4 = .slice a N c := by
        obtain ⟨a, c, h⟩ := ho4.is.slice
        rw [gen_length] at h
        exact ⟨a, c, h⟩
      subst hv4
      clear ho4 hb4
      go_wp2_with fail
      go_loopw [44, 11] (fun i s wx => ∃ j : Nat, j ≤ N ∧ i = .int .i64 j ∧ s = .int .i64 ((cnN F (k : Int) j : Nat) : Int) ∧ wx = w4) (fun i _ _ => N - (intOf i).toNat)
      case atStart => exact ⟨0, Nat.zero_le _, rfl, rfl, rfl⟩
      case round =>
        obtain ⟨j, hj, rfl, rfl, rfl⟩ := hrel
        by_cases hltj : j < N
        · have hif := HIFk.out j hltj
          have hcn : cnN F (k : Int) (j + 1) = if F j = (k : Int) then cnN F (k : Int) j + 1 else cnN F (k : Int) j := rfl
          have hcl := HCLk.out j
          rcases HO4.out with ⟨h0', _⟩ | ⟨_, b, off, cap', hveq, _, hc⟩
          · have := congrArg List.length h0'
            rw [gen_length] at this
            simp at this
            omega
          simp only [Value.slice.injEq] at hveq
          obtain ⟨rfl, hnn, rfl⟩ := hveq
          clear hnn
          have c1 := hc j (by rw [gen_length]; exact hltj)
          rw [gen_getD _ _ _ hltj] at c1
          have hltk : j < known.length := by rw [HLK.out]; exact hltj
          rcases HVB.out.below HB4.out with ⟨h0', _⟩ | ⟨_, b2, off2, cap', hveq, _, hc2⟩
          · rw [h0'] at hltk; exact absurd hltk (Nat.not_lt_zero _)
          simp only [Value.slice.injEq] at hveq
          obtain ⟨rfl, hnn, rfl⟩ := hveq
          clear hnn
          have c2 := hc2 j hltk
          obtain ⟨x, hx⟩ : ∃ x, x = Gk j := ⟨_, rfl⟩
          obtain ⟨y, hy⟩ : ∃ y, y = known.getD j 0 := ⟨_, rfl⟩
          obtain ⟨z, hz⟩ : ∃ z, z = cnN F (k : Int) j := ⟨_, rfl⟩
          rw [← hx] at c1 hif
          rw [← hy] at c2 hif
          rw [← hz] at hcn hcl ⊢
          have hj0 : (0 : Int) ≤ (j : Int) := by omega
          have hj1 : (j : Int) < (N : Int) := by omega
          have hz0 : (0 : Int) ≤ (z : Int) := by omega
          have hz1 : (z : Int) ≤ 48 := by omega
          have HIFj := Lib.hid hif
          have HCN := Lib.hid hcn
          clear hc hc2 hx hy hz hif hcn hltk hcl
          by_cases he : x = y
          · have HF := Lib.hid (HIFj.out.1 he)
            subst he
            go_wp2_with fail
            go_roundw
            case rel => exact ⟨j + 1, by omega, by go_num, by rw [HCN.out, if_pos HF.out]; rfl, by trivial⟩
            case measure => simp [intOf]; omega
          · have HF := Lib.hid (fun h => he (HIFj.out.2 h))
            have he1 : (x == y) = false := by simp [he]
            go_wp2_with fail
            go_roundw
            case rel => exact ⟨j + 1, by omega, by go_num, by rw [HCN.out, if_neg HF.out], by trivial⟩
            case measure => simp [intOf]; omega
        · obtain rfl : j = N := by omega
          rw [HFK.out]
          have hf0 : (0 : Int) ≤ (fk : Int) := by omega
          have hf1 : (fk : Int) ≤ 48 := by omega
          by_cases hgt : mm < (fk : Int)
          · have HBT1 := Lib.hid (show (btN f (k + 1)).1 = k ∧ (btN f (k + 1)).2 = (fk : Int) from by have := HBT.out; rw [if_pos hgt, if_pos hgt] at this; exact this)
            go_wp2_with fail
            go_roundw
            case rel => exact ⟨k + 1, by omega, by go_num, by rw [HBT1.out.1], by rw [HBT1.out.2], HB4.out⟩
            case measure => simp [intOf]; omega
          · have HBT1 := Lib.hid (show (btN f (k + 1)).1 = bb ∧ (btN f (k + 1)).2 = mm from by have := HBT.out; rw [if_neg hgt, if_neg hgt] at this; exact this)
            go_wp2_with fail
            go_roundw
            case rel => exact ⟨k + 1, by omega, by go_num, by rw [HBT1.out.1], by rw [HBT1.out.2], HB4.out⟩
            case measure => simp [intOf]; omega
    · obtain rfl : k = 4 := by omega
      have HB := Lib.hid hbel
      obtain ⟨bb, hbb⟩ : ∃ b, b = (btN f 4).1 := ⟨_, rfl⟩
      have HBD := Lib.hid hbb
      rw [← hbb]
      clear hbel hbb
      go_wp2_with fail
      go_returns
      exact ⟨by rw [← HBD.out]; rfl, HB.out⟩
end Go.Proofs.Ytoehehaeanepmab
