/- The model's sdFilter, FilterOf, FindDelay. -/
import Derived.Test.YtapmehgdnofgnabSSpM
namespace Go.Proofs.Ytapmehgdnofgnab
set_option maxRecDepth 100000
open Go.RowKit

theorem IG.cells3 {w : World} {a : Option Addr} {n cap : Nat} {l : List (Int × Int)} (h : IG w (.slice a n cap) l) (i : Nat) (hi : i < l.length) :
    ∃ b off, a = some ⟨b, off, none⟩ ∧ w.cell? ⟨b, off + i * 2, none⟩ = some (.int .i64 (gre l i)) ∧ w.cell? ⟨b, off + i * 2 + 1, none⟩ = some (.int .i64 (gim l i)) := by
  rcases h with ⟨h0, _⟩ | ⟨_, bb, off, cap', hv, _, hc⟩
  · rw [h0] at hi; simp at hi
  · injection hv with e1 e2 e3
    exact ⟨bb, off, e1, hc i hi⟩
set_option maxRecDepth 100000 in
set_option maxHeartbeats 2000000 in
theorem sdFilter_any (va vs : Value) (l : List (Int × Int)) (s : List Int) (w : World) (hva : IG w va l) (hvs : IS w vs s) (hd : hdOk l = true) (hc : cdOk s = true) :
    Calls Try.prog 68 #[va, vs] w (fun e w' => ∃ v, e = .returned v ∧ OwnG w' w.heap.size v (ftL l s) ∧ Below w.heap.size w w') := by
  have h64 := hdOk_len hd
  have hs := (cdOk_seq hc).1
  have h1s := (cdOk_seq hc).2
  have h32 := isSeq_len hs
  have HMT := Lib.hid (fun (o : Nat) (ho : o + s.length ≤ l.length) (w1 : World) (h1 : IG w1 va l) (h2 : IS w1 vs s) => sdMatch_any va vs l s o w1 h1 h2 (hdOk_good hd) hs ho (by omega))
  have HVA := Lib.hid hva
  have HVS := Lib.hid hvs
  obtain ⟨pa, ca, rfl⟩ := hva.slice
  obtain ⟨ps, cs, rfl⟩ := hvs.slice
  have HFN := Lib.hid (show ftN l s = l.length + 1 - s.length from rfl)
  unfold ftL
  obtain ⟨F, hF⟩ : ∃ F, F = ftN l s := ⟨_, rfl⟩
  rw [← hF] at HFN ⊢
  obtain ⟨X, hX⟩ : ∃ X, X = mtX l s := ⟨_, rfl⟩
  obtain ⟨Y, hY⟩ : ∃ X, X = mtY l s := ⟨_, rfl⟩
  rw [← hX, ← hY] at HMT ⊢
  obtain ⟨N, hN⟩ : ∃ n, n = l.length := ⟨_, rfl⟩
  obtain ⟨M, hM⟩ : ∃ n, n = s.length := ⟨_, rfl⟩
  rw [← hN] at HMT HFN HVA h64 ⊢
  rw [← hM] at HMT HFN HVS h1s h32 ⊢
  clear hF hX hY hN hM hs hd hc hva hvs
  go_enter Try.func68, Try.ntmps68
  go_wp2_with fail
  go_loopw [6, 5] (fun i v wr => ∃ k : Nat, k ≤ F ∧ i = .int .i64 k ∧ OwnG wr w.heap.size v (genG k X Y) ∧ Below w.heap.size w wr) (fun i _ _ => F - (intOf i).toNat)
  case atStart => exact ⟨0, Nat.zero_le _, rfl, OwnG.nil _ _, Below.refl _ _⟩
  case round =>
    obtain ⟨k, hk, rfl, ho, hbel⟩ := hrel
    have HO := Lib.hid ho
    have HB := Lib.hid hbel
    have hF := HFN.out
    clear ho hbel
    by_cases hlt : k < F
    · have hkm : k + M ≤ N := by omega
      have hcond : (k : Int) + (M : Int) ≤ (N : Int) := by omega
      have e2 : wrap64 ((k : Int) + (M : Int)) = (k : Int) + (M : Int) := IntWalk.wrap64_in _ (by omega)
      have HM := Lib.hid (HMT.out k hkm _ (HVA.out.below HB.out) (HVS.out.below HB.out))
      have hgs := genG_succ k X Y
      obtain ⟨x, hx⟩ : ∃ x, x = X k := ⟨_, rfl⟩
      obtain ⟨y, hy⟩ : ∃ x, x = Y k := ⟨_, rfl⟩
      rw [← hx, ← hy] at HM hgs
      have HGS := Lib.hid hgs
      have HGL := Lib.hid (show (genG k X Y).length ≤ 1048576 by rw [genG_length]; omega)
      clear hF hkm hgs hx hy
      go_wp2_with fail
      refine (HM.out).mono ?_
      rintro e w2 ⟨rfl, hb⟩
      have HB2 := Lib.hid (joins HB.out hb)
      have HO2 := Lib.hid (HO.out.below hb)
      clear hb
      go_wp2_with (at_builtin; refine wpList_pushG rfl _ _ rfl w.heap.size _ (genG k X Y) rfl (HO2.out.alloc _) w2.heap.size 1 x y rfl (by simp) (by simp) HGL.out w.heap.size w (HB2.out.alloc HB2.out.size _) (Nat.le_refl _) (by have := HB2.out.size; simp; omega) (by have := HB2.out.size; simp; omega) ?_; intro v3 w3 ho3 hb3)
      go_roundw
      case rel => exact ⟨k + 1, by omega, by go_num, by rw [HGS.out]; assumption, by assumption⟩
      case measure => simp [intOf]; omega
    · obtain rfl : k = F := by omega
      have hcond : ¬ ((k : Int) + (M : Int)) ≤ (N : Int) := by omega
      have e2 : wrap64 ((k : Int) + (M : Int)) = (k : Int) + (M : Int) := IntWalk.wrap64_in _ (by omega)
      clear hF
      go_wp2_with fail
      go_returns
      exact ⟨_, rfl, HO.out, HB.out⟩
set_option maxRecDepth 100000 in
set_option maxHeartbeats 2000000 in
theorem sFilterOf (va vs : Value) (l : List (Int × Int)) (s : List Int) (w : World) (hva : IG w va l) (hvs : IS w vs s) (hls : s.length ≤ 1048576) :
    Calls Try.prog 31 #[va, vs] w (MakesGB w (ftF l s) (ftB l s)) := by
  have HSI := Lib.hid (fun w1 (h : IG w1 va l) => sdSignal_any va l w1 h)
  have HCO := Lib.hid (fun w1 (h : IS w1 vs s) => sdCode_any vs s w1 h hls)
  have HVA := Lib.hid hva
  have HVS := Lib.hid hvs
  obtain ⟨pa, ca, rfl⟩ := hva.slice
  obtain ⟨ps, cs, rfl⟩ := hvs.slice
  have hdef : ftB l s = (hdOk l && cdOk s && goodL (ftL l s)) := rfl
  have hfin : ftB l s = false → ftF l s = [] := fun h => by unfold ftF; rw [h]; rfl
  cases h1 : hdOk l with
  | false =>
    have hb := show ftB l s = false by rw [hdef, h1]; rfl
    rw [hb, hfin hb]
    rw [h1] at HSI
    clear hdef hfin hb h1 hva hvs
    go_enter Try.func31, Try.ntmps31
    go_wp2_with fail
    refine (HSI.out _ HVA.out).mono ?_
    rintro e w1 ⟨rfl, hb1⟩
    go_wp2_with fail
    go_returns
    exact ⟨_, rfl, OwnG.nil _ _, hb1⟩
  | true =>
  rw [h1] at HSI
  cases h2 : cdOk s with
  | false =>
    have hb := show ftB l s = false by rw [hdef, h2, Bool.and_false]; rfl
    rw [hb, hfin hb]
    rw [h2] at HCO
    clear hdef hfin hb h1 h2 hva hvs
    go_enter Try.func31, Try.ntmps31
    go_wp2_with fail
    refine (HSI.out _ HVA.out).mono ?_
    rintro e w1 ⟨rfl, hb1⟩
    go_wp2_with fail
    refine (HCO.out _ (HVS.out.below hb1)).mono ?_
    rintro e w2 ⟨rfl, hb2⟩
    have hb1 := joins hb1 hb2
    go_wp2_with fail
    go_returns
    exact ⟨_, rfl, OwnG.nil _ _, hb1⟩
  | true =>
  rw [h2] at HCO
  have HFI := Lib.hid (fun (w1 : World) (g1 : IG w1 (.slice pa l.length ca) l) (g2 : IS w1 (.slice ps s.length cs) s) => sdFilter_any _ _ l s w1 g1 g2 h1 h2)
  have HEND := Lib.hid (show ftB l s = goodL (ftL l s) ∧ ftF l s = (if goodL (ftL l s) then ftL l s else []) from by
    have e2 : ftB l s = goodL (ftL l s) := by rw [hdef, h1, h2]; rfl
    exact ⟨e2, by unfold ftF; rw [e2]⟩)
  obtain ⟨R, hR⟩ : ∃ R, R = ftF l s := ⟨_, rfl⟩
  obtain ⟨q, hq⟩ : ∃ R, R = ftB l s := ⟨_, rfl⟩
  rw [← hR, ← hq] at HEND ⊢
  obtain ⟨M, hM⟩ : ∃ M, M = ftL l s := ⟨_, rfl⟩
  rw [← hM] at HEND HFI
  clear hdef hfin h1 h2 hva hvs hR hq hM
  go_enter Try.func31, Try.ntmps31
  go_wp2_with fail
  refine (HSI.out _ HVA.out).mono ?_
  rintro e w1 ⟨rfl, hb1⟩
  have HB1 := Lib.hid hb1
  clear hb1
  go_wp2_with fail
  refine (HCO.out _ (HVS.out.below HB1.out)).mono ?_
  rintro e w2 ⟨rfl, hb2⟩
  have HB2 := Lib.hid (joins HB1.out hb2)
  clear hb2
  go_wp2_with fail
  refine (HFI.out _ (HVA.out.below HB2.out) (HVS.out.below HB2.out)).mono ?_
  rintro e w3 ⟨v3, rfl, ho3, hb3⟩
  have HB3 := Lib.hid (joins HB2.out hb3)
  have HO3 := Lib.hid (OwnG.mono ho3 HB2.out.size)
  have he := HEND.out
  have HV := Lib.hid (tfWhole_any v3 M w3 ho3.is)
  obtain ⟨g, hg⟩ : ∃ b, b = goodL M := ⟨_, rfl⟩
  rw [← hg] at he HV
  have HE := Lib.hid he
  clear he hg ho3 hb3
  go_wp2_with fail
  refine (HV.out).mono ?_
  rintro e w4 ⟨rfl, hb⟩
  have HB4 := Lib.hid (joins HB3.out hb)
  have HO4 := Lib.hid (HO3.out.below hb)
  clear hb
  cases g with
  | true =>
    rw [if_pos rfl]
    go_wp2_with fail
    go_returns
    refine ⟨v3, by rw [HE.out.1]; rfl, ?_, HB4.out⟩
    rw [HE.out.2]
    simpa using HO4.out
  | false =>
    rw [if_neg Bool.false_ne_true]
    go_wp2_with fail
    go_returns
    refine ⟨_, by rw [HE.out.1]; rfl, ?_, HB4.out⟩
    rw [HE.out.2]
    simpa using OwnG.nil _ _
set_option maxRecDepth 100000 in
set_option maxHeartbeats 4000000 in
theorem sFindDelay (va vs : Value) (l : List (Int × Int)) (s : List Int) (w : World) (hva : IG w va l) (hvs : IS w vs s) (hls : s.length ≤ 1048576) :
    Calls Try.prog 33 #[va, vs] w (Ret w (.tuple #[.int .i64 (fdF l s), .bool (fdB l s)])) := by
  have HSI := Lib.hid (fun w1 (h : IG w1 va l) => sdSignal_any va l w1 h)
  have HCO := Lib.hid (fun w1 (h : IS w1 vs s) => sdCode_any vs s w1 h hls)
  have HVA := Lib.hid hva
  have HVS := Lib.hid hvs
  obtain ⟨pa, ca, rfl⟩ := hva.slice
  obtain ⟨ps, cs, rfl⟩ := hvs.slice
  have hdef : fdB l s = (hdOk l && cdOk s && decide (s.length ≤ l.length)) := rfl
  have hfin : fdB l s = false → fdF l s = 0 := fun h => by unfold fdF; rw [h]; rfl
  cases h1 : hdOk l with
  | false =>
    have hb := show fdB l s = false by rw [hdef, h1]; rfl
    rw [hb, hfin hb]
    rw [h1] at HSI
    clear hdef hfin hb h1 hva hvs
    go_enter Try.func33, Try.ntmps33
    go_wp2_with fail
    refine (HSI.out _ HVA.out).mono ?_
    rintro e w1 ⟨rfl, hb1⟩
    go_wp2_with fail
    go_returns
    exact ⟨rfl, hb1⟩
  | true =>
  rw [h1] at HSI
  cases h2 : cdOk s with
  | false =>
    have hb := show fdB l s = false by rw [hdef, h2, Bool.and_false]; rfl
    rw [hb, hfin hb]
    rw [h2] at HCO
    clear hdef hfin hb h1 h2 hva hvs
    go_enter Try.func33, Try.ntmps33
    go_wp2_with fail
    refine (HSI.out _ HVA.out).mono ?_
    rintro e w1 ⟨rfl, hb1⟩
    go_wp2_with fail
    refine (HCO.out _ (HVS.out.below hb1)).mono ?_
    rintro e w2 ⟨rfl, hb2⟩
    have hb1 := joins hb1 hb2
    go_wp2_with fail
    go_returns
    exact ⟨rfl, hb1⟩
  | true =>
  rw [h2] at HCO
  by_cases hln : s.length ≤ l.length
  case neg =>
    have hb := show fdB l s = false by rw [hdef, decide_eq_false hln, Bool.and_false]
    rw [hb, hfin hb]
    have hgt : (s.length : Int) > (l.length : Int) := by omega
    have hgt2 : (l.length : Int) < (s.length : Int) := by omega
    clear hdef hfin hb h1 h2 hva hvs hln
    go_enter Try.func33, Try.ntmps33
    go_wp2_with fail
    refine (HSI.out _ HVA.out).mono ?_
    rintro e w1 ⟨rfl, hb1⟩
    go_wp2_with fail
    refine (HCO.out _ (HVS.out.below hb1)).mono ?_
    rintro e w2 ⟨rfl, hb2⟩
    have hb3 := joins hb1 hb2
    go_wp2_with fail
    go_returns
    exact ⟨rfl, hb3⟩
  have hng : ¬ (s.length : Int) > (l.length : Int) := by omega
  have hng2 : ¬ (l.length : Int) < (s.length : Int) := by omega
  have HFI := Lib.hid (fun (w1 : World) (g1 : IG w1 (.slice pa l.length ca) l) (g2 : IS w1 (.slice ps s.length cs) s) => sdFilter_any _ _ l s w1 g1 g2 h1 h2)
  have HML := Lib.hid (fun j (hj : j < ftN l s) => mt_le (l := l) (s := s) (hdOk_good h1) (cdOk_seq h2).1 j (by unfold ftN at hj; have := (cdOk_seq h2).2; omega))
  have hB : fdB l s = true := by rw [hdef, h1, h2, decide_eq_true hln]; rfl
  have hF : fdF l s = (bestI (nmM l s) (ftN l s) : Int) := by unfold fdF; rw [hB]; rfl
  rw [hB, hF]
  have HFN := Lib.hid (show 0 < ftN l s ∧ ftN l s ≤ 65 from by have := hdOk_len h1; have := (cdOk_seq h2).2; unfold ftN; omega)
  have HFL := Lib.hid (show (ftL l s).length = ftN l s by unfold ftL; rw [genG_length])
  have HRE := Lib.hid (fun j (hj : j < ftN l s) => And.intro (show gre (ftL l s) j = mtX l s j by unfold ftL; rw [genG_re _ _ _ _ hj]) (show gim (ftL l s) j = mtY l s j by unfold ftL; rw [genG_im _ _ _ _ hj]))
  have HNM := Lib.hid (fun j => show nmM l s j = norm (mtX l s j) (mtY l s j) from rfl)
  have HBL := Lib.hid (fun k => bestI_lt (nmM l s) k)
  obtain ⟨G, hG⟩ : ∃ G, G = nmM l s := ⟨_, rfl⟩
  rw [← hG] at HNM HBL ⊢
  have HBN := Lib.hid (fun k => show bestI G (k + 1) = (if G k > G (bestI G k) then k else bestI G k) from rfl)
  obtain ⟨F, hFF⟩ : ∃ F, F = ftN l s := ⟨_, rfl⟩
  rw [← hFF] at HML HFN HFL HRE ⊢
  obtain ⟨M, hM⟩ : ∃ M, M = ftL l s := ⟨_, rfl⟩
  rw [← hM] at HFI HFL HRE
  have hf1 := HFN.out.1
  have hf2 := HFN.out.2
  clear hdef hfin h1 h2 hva hvs hln hB hF hG hFF hM
  go_enter Try.func33, Try.ntmps33
  go_wp2_with fail
  refine (HSI.out _ HVA.out).mono ?_
  rintro e w1 ⟨rfl, hb1⟩
  have HB1 := Lib.hid hb1
  clear hb1
  go_wp2_with fail
  refine (HCO.out _ (HVS.out.below HB1.out)).mono ?_
  rintro e w2 ⟨rfl, hb2⟩
  have HB2 := Lib.hid (joins HB1.out hb2)
  clear hb2
  go_wp2_with fail
  refine (HFI.out _ (HVA.out.below HB2.out) (HVS.out.below HB2.out)).mono ?_
  rintro e w3 ⟨v3, rfl, ho3, hb3⟩
  have HB3 := Lib.hid (joins HB2.out hb3)
  have HO3 := Lib.hid ho3.is
  obtain ⟨a3, c3, rfl⟩ := ho3.is.slice
  rw [HFL.out] at HO3 ⊢
  clear ho3 hb3
  go_wp2_with fail
  go_loopw [30, 7] (fun i b wr => ∃ k : Nat, k ≤ F ∧ i = .int .i64 k ∧ b = .int .i64 (bestI G k : Nat) ∧ IG wr (.slice a3 F c3) M ∧ Below w.heap.size w wr) (fun i _ _ => F - (intOf i).toNat)
  case atStart => exact ⟨0, Nat.zero_le _, rfl, rfl, HO3.out, HB3.out⟩
  case round =>
    obtain ⟨k, hk, rfl, rfl, hig, hbel⟩ := hrel
    have HO := Lib.hid hig
    have HB := Lib.hid hbel
    clear hig hbel
    by_cases hlt : k < F
    · have h0 : (0 : Int) ≤ (k : Int) := by omega
      have h1 : (k : Int) < (F : Int) := by omega
      have hbl := HBL.out k
      have hbn := HBN.out k
      obtain ⟨b, hb⟩ : ∃ b, b = bestI G k := ⟨_, rfl⟩
      rw [← hb] at hbl hbn ⊢
      have hbF : b < F := by omega
      have HI0 := Lib.hid (show (0 : Int) ≤ (b : Int) by omega)
      have HI1 := Lib.hid (show (b : Int) < (F : Int) by omega)
      obtain ⟨bk, ok, rfl, hc1, hc2⟩ := HO.out.cells3 k (by rw [HFL.out]; exact hlt)
      obtain ⟨bb, ob, hbe, hd1, hd2⟩ := HO.out.cells3 b (by rw [HFL.out]; exact hbF)
      obtain ⟨rfl, rfl⟩ : bk = bb ∧ ok = ob := by
        simp only [Option.some.injEq, Addr.mk.injEq] at hbe
        exact ⟨hbe.1, hbe.2.1⟩
      rw [(HRE.out k hlt).1] at hc1
      rw [(HRE.out k hlt).2] at hc2
      rw [(HRE.out b hbF).1] at hd1
      rw [(HRE.out b hbF).2] at hd2
      have hmk := HML.out k hlt
      have hmb := HML.out b hbF
      have hnk := HNM.out k
      have hnb := HNM.out b
      obtain ⟨x1, hx1⟩ : ∃ x, x = mtX l s k := ⟨_, rfl⟩
      obtain ⟨y1, hy1⟩ : ∃ x, x = mtY l s k := ⟨_, rfl⟩
      obtain ⟨x2, hx2⟩ : ∃ x, x = mtX l s b := ⟨_, rfl⟩
      obtain ⟨y2, hy2⟩ : ∃ x, x = mtY l s b := ⟨_, rfl⟩
      rw [← hx1] at hc1 hmk hnk
      rw [← hy1] at hc2 hmk hnk
      rw [← hx2] at hd1 hmb hnb
      rw [← hy2] at hd2 hmb hnb
      have HNK := Lib.hid (phNormW_any x1 y1 hmk.1 hmk.2)
      have HNB := Lib.hid (phNormW_any x2 y2 hmb.1 hmb.2)
      rw [← hnk] at HNK
      rw [← hnb] at HNB
      obtain ⟨z, hz⟩ : ∃ x, x = G k := ⟨_, rfl⟩
      obtain ⟨y, hy⟩ : ∃ x, x = G b := ⟨_, rfl⟩
      rw [← hz] at HNK hbn
      rw [← hy] at HNB hbn
      have HBS := Lib.hid hbn
      have c1 := hc1
      have c2 := hc2
      have HD1_ := Lib.hid hd1
      have HD2_ := Lib.hid hd2
      clear hmk hmb hnk hnb hx1 hy1 hx2 hy2 hz hy hc1 hc2 hd1 hd2 hbe hb hbl hbn
      go_wp2_with fail
      obtain ⟨w5, hw5⟩ : ∃ w5, w5 = wr.alloc (.cells #[.int .i64 x1, .int .i64 y1] 26) := ⟨_, rfl⟩
      rw [← hw5]
      have HC1 := Lib.hid (show w5.cell? ⟨wr.heap.size, 0, none⟩ = some (.int .i64 x1) by rw [hw5]; exact cell_new0 _ _ _ _)
      have HC2 := Lib.hid (show w5.cell? ⟨wr.heap.size, 1, none⟩ = some (.int .i64 y1) by rw [hw5]; exact cell_new1 _ _ _ _)
      have HD1 := Lib.hid (show w5.cell? ⟨bk, ok + b * 2, none⟩ = some (.int .i64 x2) by rw [hw5]; exact keepa _ HD1_.out)
      have HD2 := Lib.hid (show w5.cell? ⟨bk, ok + b * 2 + 1, none⟩ = some (.int .i64 y2) by rw [hw5]; exact keepa _ HD2_.out)
      have HB5 := Lib.hid (show Below w.heap.size w w5 by rw [hw5]; exact belowa HB.out _)
      have HO5 := Lib.hid (show IG w5 (.slice (some ⟨bk, ok, none⟩) F c3) M by rw [hw5]; exact HO.out.below (belowa (Below.refl _ _) _))
      clear hw5 c1 c2
      refine wp_region_held_drew (S := (fun w' => World.grownBy w5 w' none)) (by kernel_rfl) (grownDrew (World.grownBy.refl _ _)) ?_
      obtain ⟨d1, hdw⟩ : ∃ w', w' = w5.drew := ⟨_, rfl⟩
      rw [← hdw]
      have hb : Below w5.heap.size w5 d1 := by rw [hdw]; exact belowN (Below.refl _ _) 1
      have F1_B := Lib.hid (joins HB5.out hb)
      have F1_O := Lib.hid (HO5.out.below hb)
      clear hdw hb
      intro hHeld
      refine' wpAnyH_take (i := 0) (v := _) rfl (by kernel_rfl) (by kernel_rfl) (by kernel_rfl) (fun _ _ _ h => h) (Or.inl ⟨by rfl, ?hy1⟩) (by assumption) ?rest1
      case hy1 =>
        intro w h
        have c1 := cellR h HC1.out (by simp)
        have c2 := cellR h HC2.out (by simp)
        (try clear h)
        go_simp
        (try with_reducible rfl)
      (try simp only [Act.put, List.getElem_toArray, List.getElem_cons_zero, List.setIfInBounds_toArray, List.set_cons_zero, List.set_cons_succ])
      refine' wpAnyH_take (i := 2) (v := _) rfl (by kernel_rfl) (by kernel_rfl) (by kernel_rfl) (fun _ _ _ h => h) (Or.inl ⟨by rfl, ?hy2⟩) (by assumption) ?rest2
      case hy2 =>
        intro w h
        (try clear h)
        go_simp
        (try with_reducible rfl)
      (try simp only [Act.put, List.getElem_toArray, List.getElem_cons_zero, List.getElem_cons_succ, List.setIfInBounds_toArray, List.set_cons_zero, List.set_cons_succ])
      refine' wpAnyH_take (i := 3) (v := _) rfl (by kernel_rfl) (by kernel_rfl) (by kernel_rfl) (fun _ _ _ h => h) (Or.inl ⟨by rfl, ?hy3⟩) (by assumption) ?rest3
      case hy3 =>
        intro w h
        (try clear h)
        go_simp
        (try with_reducible rfl)
      (try simp only [Act.put, List.getElem_toArray, List.getElem_cons_zero, List.getElem_cons_succ, List.setIfInBounds_toArray, List.set_cons_zero, List.set_cons_succ])
      refine' wpAnyH_take (i := 4) (v := _) rfl (by kernel_rfl) (by kernel_rfl) (by kernel_rfl) (fun _ _ _ h => h) (Or.inl ⟨by rfl, ?hy4⟩) (by assumption) ?rest4
      case hy4 =>
        intro w h
        have h0 := HI0.out
        have h1 := HI1.out
        (try clear h)
        go_simp
        (try with_reducible rfl)
      (try simp only [Act.put, List.getElem_toArray, List.getElem_cons_zero, List.getElem_cons_succ, List.setIfInBounds_toArray, List.set_cons_zero, List.set_cons_succ])
      refine' wpAnyH_take (i := 5) (v := _) rfl (by kernel_rfl) (by kernel_rfl) (by kernel_rfl) (fun _ _ _ h => h) (Or.inl ⟨by rfl, ?hy5⟩) (by assumption) ?rest5
      case hy5 =>
        intro w h
        have c1 := cellR h HD1.out (by simp)
        have c2 := cellR h HD2.out (by simp)
        (try clear h)
        go_simp
        (try with_reducible rfl)
      (try simp only [Act.put, List.getElem_toArray, List.getElem_cons_zero, List.getElem_cons_succ, List.setIfInBounds_toArray, List.set_cons_zero, List.set_cons_succ])
      refine wpAnyH_ready (rs := [1]) (by kernel_rfl) (by simp) ?_
      refine AllReadyH.cons rfl (fun K hK => ?_) AllReadyH.nil
      go_simp
      refine (HNK.out _).mono ?_
      rintro e d2 ⟨rfl, hb⟩
      have F2_B := Lib.hid (joins F1_B.out hb)
      have F2_O := Lib.hid (F1_O.out.below hb)
      have hHeld := grownB hHeld hb
      clear hb
      refine hK.out _ _ hHeld (fun hHeld => ?_)
      clear hK K
      (try simp only [Act.put, List.getElem_toArray, List.getElem_cons_zero, List.getElem_cons_succ, List.setIfInBounds_toArray, List.set_cons_zero, List.set_cons_succ])
      refine wpAnyH_ready (rs := [6]) (by kernel_rfl) (by simp) ?_
      refine AllReadyH.cons rfl (fun K hK => ?_) AllReadyH.nil
      go_simp
      refine (HNB.out _).mono ?_
      rintro e d3 ⟨rfl, hb⟩
      have F3_B := Lib.hid (joins F2_B.out hb)
      have F3_O := Lib.hid (F2_O.out.below hb)
      have hHeld := grownB hHeld hb
      clear hb
      refine hK.out _ _ hHeld (fun hHeld => ?_)
      clear hK K
      (try simp only [Act.put, List.getElem_toArray, List.getElem_cons_zero, List.getElem_cons_succ, List.setIfInBounds_toArray, List.set_cons_zero, List.set_cons_succ])
      refine' wpAnyH_take (i := 7) (v := _) rfl (by kernel_rfl) (by kernel_rfl) (by kernel_rfl) (fun _ _ _ h => h) (Or.inl ⟨by rfl, ?hy6⟩) (by assumption) ?rest6
      case hy6 =>
        intro w h
        (try clear h)
        go_simp
        (try with_reducible rfl)
      (try simp only [Act.put, List.getElem_toArray, List.getElem_cons_zero, List.getElem_cons_succ, List.setIfInBounds_toArray, List.set_cons_zero, List.set_cons_succ])
      refine wpAnyH_done (by kernel_rfl) ?_ _
      have HB9 := Lib.hid F3_B.out
      have HO9 := Lib.hid F3_O.out
      by_cases hgt : z > y
      · have HNX := Lib.hid (show bestI G (k + 1) = k by rw [HBS.out, if_pos hgt])
        go_wp2_with fail
        go_roundw
        case rel => exact ⟨k + 1, by omega, by go_num, by rw [HNX.out], HO9.out, HB9.out⟩
        case measure => simp [intOf]; omega
      · have HNX := Lib.hid (show bestI G (k + 1) = b by rw [HBS.out, if_neg hgt])
        have hgt2 : ¬ y < z := by omega
        go_wp2_with fail
        go_roundw
        case rel => exact ⟨k + 1, by omega, by go_num, by rw [HNX.out], HO9.out, HB9.out⟩
        case measure => simp [intOf]; omega
    · obtain rfl : k = F := by omega
      go_wp2_with fail
      go_returns
      exact ⟨rfl, HB.out⟩
end Go.Proofs.Ytapmehgdnofgnab
