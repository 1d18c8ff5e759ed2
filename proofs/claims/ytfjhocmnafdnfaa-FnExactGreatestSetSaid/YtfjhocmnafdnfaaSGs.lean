/- The model's sdBefore, GreatestSet. -/
import Derived.Test.YtfjhocmnafdnfaaISpW
import Derived.Test.YtfjhocmnafdnfaaSOrt
import Derived.Test.YtfjhocmnafdnfaaPuK
namespace Go.Proofs.Ytfjhocmnafdnfaa
set_option maxRecDepth 100000
open Go.RowKit

/-- The chosen codes are orthogonal, each two, where the chosen indices are a good set. -/
theorem orB_chosen (m : List (List Int)) (l : List Nat) (hup : l.Pairwise (· < ·)) (hlt : ∀ x ∈ l, x < m.length) : orB (l.map (fun x => m.getD x [])) = true ↔ GtGood (gtR m) m.length l := by
  have hat : ∀ i (h : i < l.length), (l.map (fun x => m.getD x [])).getD i [] = m.getD l[i] [] := fun i h => by simp [List.getD, h]
  unfold orB oxUp oxRow
  rw [List.length_map]
  constructor
  · intro h
    refine ⟨List.pairwise_iff_getElem.2 (fun i j hi hj hij => ⟨List.pairwise_iff_getElem.1 hup i j hi hj hij, ?_⟩), hlt⟩
    have h1 := List.all_eq_true.1 h j (List.mem_range.2 hj)
    have h2 := List.all_eq_true.1 h1 i (List.mem_range.2 hij)
    unfold oxB at h2
    rw [hat j hj, hat i hi] at h2
    unfold gtR
    simpa using h2
  · intro h
    refine List.all_eq_true.2 (fun j hj => List.all_eq_true.2 (fun i hi => ?_))
    have hj' := List.mem_range.1 hj
    have hi' := List.mem_range.1 hi
    have h1 := (List.pairwise_iff_getElem.1 h.up i j (by omega) hj' hi').2
    unfold oxB
    rw [hat j hj', hat i (by omega)]
    unfold gtR at h1
    simpa using h1
theorem gtB4_drop (a b : List Nat) (k : Nat) (ha : k < a.length) (hb : k < b.length) : gtB4 (a.drop k) (b.drop k) = if a.getD k 0 = b.getD k 0 then gtB4 (a.drop (k + 1)) (b.drop (k + 1)) else decide (a.getD k 0 < b.getD k 0) := by
  rw [List.drop_eq_getElem_cons ha, List.drop_eq_getElem_cons hb]
  have e1 : a.getD k 0 = a[k] := by simp [List.getD, ha]
  have e2 : b.getD k 0 = b[k] := by simp [List.getD, hb]
  rw [e1, e2]
  rfl
theorem nL_at (a : List Nat) (k : Nat) : (nL a).getD k 0 = ((a.getD k 0 : Nat) : Int) := by
  unfold nL
  by_cases h : k < a.length
  · simp [List.getD, h]
  · simp [List.getD, show a.length ≤ k by omega]
set_option maxRecDepth 100000 in
set_option maxHeartbeats 1000000 in
theorem sdBefore_any (va vb : Value) (a b : List Nat) (w : World) (hva : IS w va (nL a)) (hvb : IS w vb (nL b)) (hab : a.length = b.length) (h8 : a.length ≤ 8) : Calls Try.prog 98 #[va, vb] w (Ret w (.bool (gtB4 a b))) := by
  obtain ⟨pa, ca, rfl⟩ := hva.slice
  obtain ⟨pb, cb, rfl⟩ := hvb.slice
  have HVA := Lib.hid hva
  have HVB := Lib.hid hvb
  have hla := nL_length a
  have hlb := nL_length b
  obtain ⟨n, hn⟩ : ∃ n, n = a.length := ⟨_, rfl⟩
  have hlb2 : (nL b).length = n := by rw [hlb, hn, hab]
  have hla2 : (nL a).length = n := by rw [hla, hn]
  have HLA := Lib.hid hla2
  have HLB := Lib.hid hlb2
  rw [hla2, hlb2]
  obtain ⟨r, hr⟩ : ∃ r, r = gtB4 a b := ⟨_, rfl⟩
  have HR := Lib.hid (show gtB4 (a.drop 0) (b.drop 0) = r from hr.symm)
  have HEND := Lib.hid (show gtB4 (a.drop n) (b.drop n) = false from by rw [hn, List.drop_length]; rfl)
  have HST := Lib.hid (fun k (hk : k < n) => gtB4_drop a b k (by omega) (by omega))
  have HN8 : n ≤ 8 := by omega
  rw [← hr]
  clear hva hvb hla hlb hlb2 hla2 hn hab hr h8
  go_enter Try.func98, Try.ntmps98
  go_wp2_with fail
  go_loopw [9] (fun q wr => ∃ k : Nat, k ≤ n ∧ q = .int .i64 k ∧ gtB4 (a.drop k) (b.drop k) = r ∧ Below w.heap.size w wr) (fun q _ => n - (intOf q).toNat)
  case atStart => exact ⟨0, Nat.zero_le _, rfl, HR.out, Below.refl _ _⟩
  case round =>
    obtain ⟨k, hk, rfl, hres, hbel⟩ := hrel
    have HB := Lib.hid hbel
    by_cases hlt : k < n
    · have h0 : (0 : Int) ≤ (k : Int) := by omega
      have h1 : (k : Int) < (n : Int) := by omega
      have hs := HST.out k hlt
      rw [hres] at hs
      obtain ⟨ba, oa, rfl, hca⟩ := IS.cellsAt (a := pa) (cap := ca) (l := nL a) HVA.out (by rw [HLA.out]; omega)
      obtain ⟨bb, ob, rfl, hcb⟩ := IS.cellsAt (a := pb) (cap := cb) (l := nL b) HVB.out (by rw [HLB.out]; omega)
      have c1 := keepc HB.out (hca k (by rw [HLA.out]; exact hlt))
      have c2 := keepc HB.out (hcb k (by rw [HLB.out]; exact hlt))
      rw [nL_at] at c1 c2
      obtain ⟨x, hx⟩ : ∃ x, x = a.getD k 0 := ⟨_, rfl⟩
      obtain ⟨y, hy⟩ : ∃ y, y = b.getD k 0 := ⟨_, rfl⟩
      rw [← hx] at c1 hs
      rw [← hy] at c2 hs
      clear hx hy hca hcb hres hbel
      by_cases e : x = y
      · subst e
        rw [if_pos rfl] at hs
        have HS := Lib.hid hs.symm
        clear hs
        go_wp2_with fail
        go_roundw
        case rel => exact ⟨k + 1, by omega, by go_num, HS.out, HB.out⟩
        case measure => simp [intOf]; omega
      · rw [if_neg e] at hs
        have HS := Lib.hid hs
        have hne : ((x : Int) == (y : Int)) = false := by simpa using (show (x : Int) ≠ (y : Int) by omega)
        clear hs
        go_wp2_with fail
        go_returns
        exact ⟨ret_bool (by rw [HS.out] <;> simp), HB.out⟩
    · obtain rfl : k = n := by omega
      have HS := Lib.hid (show r = false from by rw [← hres]; exact HEND.out)
      clear hres hbel
      go_wp2_with fail
      go_returns
      exact ⟨ret_bool (by rw [HS.out]), HB.out⟩
theorem gsF_len (m : List (List Int)) : (gsF m).length ≤ 1048576 := by
  unfold gsF
  split
  · rename_i h
    have h1 := gtL_len (gtR m) m.length [] 0 []
    have h2 := (cdsOk_parts h).1.2
    rw [nL_length]
    unfold gtV
    simp only [List.length_nil, Nat.zero_add] at h1
    omega
  · exact Nat.zero_le _
/-- One row more, shared; nothing else turns but the list's own block. -/
theorem wpList_pushW {ops : Array Oper} {rest : List Oper} {o : Oper} {a : Act} {w : World} {Q : Exit → Act → World → Prop} (hg : o.guard = none) (s x : Operand)
    (ho : o.op = .call { callee := .builtin .append, args := #[s, x], argTypes := #[22, 22] }) (B : Nat) (v : Value) (rs : List Value) (hs : a.eval s = v)
    (hown : w.ownsRow B 24 1 v rs.length rs)
    (g c : Nat) (r : Value) (hx : a.eval x = .slice (some ⟨g, 0, none⟩) 1 c) (hc : w.cell? ⟨g, 0, none⟩ = some r) (h1 : r.oneCell' = true)
    (hlen : rs.length ≤ 1048576)
    (S : Nat) (w0 : World) (hb : Below S w0 w) (hS : S ≤ B) (hB : B ≤ w.heap.size) (hSw : S ≤ w.heap.size)
    (hK : ∀ v' w', w'.ownsRow B 24 1 v' (rs ++ [r]).length (rs ++ [r]) → Below S w0 w' → w.grownBy w' v.ownBlock → wpList Try.prog ops Q rest (a.put o.dst v') w') : wpList Try.prog ops Q (o :: rest) a w := by
  obtain ⟨i0, hi, hz0, hz1, hz2⟩ := info_parts infoRow
  refine wpList_append_own_at (P := Try.prog) (w := w) hg s x 22 ho B 24 i0 (.slice none 0 0) 1 24 Try.underlying22 hi hz0 hz1 hz2 rfl (by decide) v rs.length rs hs hown ⟨g, 0, none⟩ 1 c [r] hx rfl ?_ ?_ ?_ ?_ hB ?_
  · intro j u hj
    match j, hj with
    | 0, hj => simp at hj; subst hj; simpa [Addr.add] using hc
  · intro u hu; simp at hu; subst hu; exact h1
  · unfold maxLen; omega
  · omega
  · intro v' w' hown' hgr _ hblk
    refine hK v' w' ?_ (hb.grown hgr hSw (fun k hk => Nat.le_trans hS (hown.lt k hk).1)) hgr
    rw [List.length_append]; exact hown'
/-- Rows chosen out of what an argument holds, in an outer row of the call's own, read as these lists. -/
theorem chosen_IR {w : World} {B : Nat} {v : Value} {m : List (List Int)} {l : List Nat} {U : Nat → Value} (ho : w.ownsRow B 24 1 v l.length (l.map U)) (hu : ∀ x ∈ l, IS w (U x) (m.getD x [])) : IR w v (l.map (fun x => m.getD x [])) := by
  have ho' := ho
  rcases ho.2 with ⟨rfl, h0⟩ | ⟨b, cp, cur, rfl, hg, hh, hn, hcap, hsz, htake⟩
  · have : l = [] := List.length_eq_zero_iff.1 h0
    subst this
    exact IR.nil w
  · by_cases hl : l = []
    · subst hl; exact Or.inl ⟨rfl, _, _, rfl⟩
    · refine Or.inr ⟨by simpa using hl, b, 0, cp, by rw [List.length_map], by rw [List.length_map]; omega, fun i hi => ?_⟩
      have hi' : i < l.length := by simpa using hi
      refine ⟨U l[i], ?_, ?_⟩
      · rw [Nat.zero_add, ho'.cellAt i (by omega)]
        simp [hi']
      · have e : (l.map (fun x => m.getD x [])).getD i [] = m.getD l[i] [] := by simp [List.getD, hi']
        rw [e]
        exact hu _ (List.getElem_mem hi')
theorem mkL_len (n s : Nat) : (mkL n s).length ≤ n := by
  unfold mkL
  have := List.length_filter_le (fun k => s.testBit k) (List.range n)
  simpa using this
def gtC (m : List (List Int)) (S : Nat) (B : List Nat) : Bool := orB ((mkL m.length S).map (fun x => m.getD x [])) && (decide ((mkL m.length S).length > B.length) || (decide ((mkL m.length S).length = B.length) && gtB4 (mkL m.length S) B))
theorem gtC_yes {m : List (List Int)} {S : Nat} {B : List Nat} (h : MkBest (gtR m) m.length S B) (hc : gtC m S B = true) : MkBest (gtR m) m.length (S + 1) (mkL m.length S) := by
  unfold gtC at hc
  simp only [Bool.and_eq_true, Bool.or_eq_true, decide_eq_true_eq] at hc
  exact h.next ((orB_chosen m _ (mkL_up _ _) (fun x hx => mkL_lt hx)).1 hc.1) hc.2
theorem gtC_no {m : List (List Int)} {S : Nat} {B : List Nat} (h : MkBest (gtR m) m.length S B) (hc : gtC m S B = false) : MkBest (gtR m) m.length (S + 1) B := by
  refine h.stay (fun hg hb => ?_)
  have h1 := (orB_chosen m _ (mkL_up _ _) (fun x hx => mkL_lt hx)).2 hg
  unfold gtC at hc
  rw [h1, Bool.true_and] at hc
  simp only [Bool.or_eq_false_iff, Bool.and_eq_false_iff, decide_eq_false_iff_not] at hc
  rcases hb with h2 | ⟨h2, h3⟩
  · exact hc.1 h2
  · rcases hc.2 with h4 | h4
    · exact h4 h2
    · rw [h3] at h4; cases h4
theorem chosen_allN {m : List (List Int)} {N : Nat} (h : AllN m N) (S : Nat) : AllN ((mkL m.length S).map (fun x => m.getD x [])) N := fun i hi => by
  have hi' : i < (mkL m.length S).length := by simpa using hi
  have e : ((mkL m.length S).map (fun x => m.getD x [])).getD i [] = m.getD (mkL m.length S)[i] [] := by simp [List.getD, hi']
  rw [e]
  exact h _ (mkL_lt (List.getElem_mem hi'))
theorem shl_n (n : Nat) (h : n ≤ 8) : wrap64 (2 ^ n) = ((2 ^ n : Nat) : Int) := by
  have h' : ∀ j : Nat, j < 9 → wrap64 (2 ^ j) = ((2 ^ j : Nat) : Int) := by decide +kernel
  exact h' n (by omega)
theorem bit_n (S k : Nat) : S.testBit k = decide (S / 2 ^ k % 2 = 1) := by
  rw [Nat.testBit_eq_decide_div_mod_eq]
/-- A list of numbers and one of lists lie in different blocks. -/
theorem apart_types {w : World} {B B' : Nat} {v u : Value} {l : List Int} {n : Nat} {rs : List Value} (h : Own w B v l) (h' : w.ownsRow B' 24 1 u n rs) (k : Nat) (hk : v.ownBlock = some k) : u.ownBlock ≠ some k := by
  intro e
  rcases h.2 with ⟨rfl, _⟩ | ⟨g, cap, cur, rfl, hg, hh, _⟩
  · cases hk
  · rcases h'.2 with ⟨rfl, _⟩ | ⟨g', cap', cur', rfl, hg', hh', _⟩
    · cases e
    · simp [Value.ownBlock] at hk e
      subst hk e
      rw [hh] at hh'
      simp at hh'
theorem row_kept {w w' : World} {B B' : Nat} {v u : Value} {l : List Int} {n : Nat} {rs : List Value} (h : Own w B v l) (h' : w.ownsRow B' 24 1 u n rs) (hg : w.grownBy w' v.ownBlock) : w'.ownsRow B' 24 1 u n rs :=
  World.ownsRow.kept h' hg (by
    cases hv : u.ownBlock with
    | none => exact Or.inl rfl
    | some k => exact Or.inr (fun e => apart_types h h' k e.symm hv))
theorem own_kept {w w' : World} {B B' : Nat} {v u : Value} {l : List Int} {n : Nat} {rs : List Value} (h : Own w B v l) (h' : w.ownsRow B' 24 1 u n rs) (hg : w.grownBy w' u.ownBlock) : Own w' B v l :=
  World.ownsRow.kept h hg (by
    cases hv : v.ownBlock with
    | none => exact Or.inl rfl
    | some k => exact Or.inr (fun e => apart_types h h' k hv e.symm))
theorem tm_bit (S k : Nat) : (((S : Int) / 2 ^ k).tmod 2 == 1) = S.testBit k := by
  have e : (S : Int) / 2 ^ k = ((S / 2 ^ k : Nat) : Int) := by simp
  rw [e, bit_n]
  generalize S / 2 ^ k = q
  rw [Int.tmod_eq_emod_of_nonneg (by omega)]
  by_cases h : q % 2 = 1
  · rw [decide_eq_true h]; simp; omega
  · rw [decide_eq_false h]; simp; omega
set_option maxRecDepth 100000 in
set_option maxHeartbeats 4000000 in
theorem sGreatestSet (v : Value) (m : List (List Int)) (w : World) (hv : IR w v m) (hlen : sz2 m ≤ 1048576) : Calls Try.prog 10 #[v] w (MakesB w (gsF m) (cdsOk m)) := by
  have HC := Lib.hid (sdCodes_any v m w hv hlen)
  unfold gsF
  cases hc : cdsOk m with
  | false =>
    rw [hc] at HC
    rw [if_neg (by decide)]
    obtain ⟨pa, ca, rfl⟩ := hv.slice
    clear hv hc
    go_enter Try.func10, Try.ntmps10
    go_wp2_with fail
    refine HC.out.mono ?_
    rintro e w1 ⟨rfl, hb⟩
    have B1 := Lib.hid hb
    clear hb
    go_wp2_with fail
    go_returns
    exact ⟨_, rfl, World.ownsRow_nil _ _ _ _, B1.out⟩
  | true =>
    rw [hc] at HC
    rw [if_pos rfl]
    have hok := cdsOk_allN hc
    have h18 := (cdsOk_parts hc).1
    rcases hv with ⟨h0, -⟩ | ⟨hne, b, off, cap, rfl, hml, hcell⟩
    · rw [h0] at h18; simp at h18
    obtain ⟨U, hU⟩ : ∃ U : Nat → Value, U = fun x => (w.cell? ⟨b, off + x, none⟩).getD (.slice none 0 0) := ⟨_, rfl⟩
    have hUc : ∀ x, x < m.length → w.cell? ⟨b, off + x, none⟩ = some (U x) ∧ IS w (U x) (m.getD x []) := fun x hx => by
      obtain ⟨u, h1, h2⟩ := hcell x hx
      have e : U x = u := by
        rw [hU]
        show (w.cell? ⟨b, off + x, none⟩).getD (.slice none 0 0) = u
        rw [h1]; rfl
      rw [e]
      exact ⟨h1, h2⟩
    have HUC := Lib.hid hUc
    have HOR := Lib.hid (fun S vv w' (h : IR w' vv ((mkL m.length S).map (fun x => m.getD x []))) (hcap : capOk vv) => sdOrthogonal_any vv _ (cdN m) w' h hcap (chosen_allN hok S) (by rw [List.length_map]; have := mkL_len m.length S; omega))
    have HBE := Lib.hid (fun S B va vb w' (h1 : IS w' va (nL (mkL m.length S))) (h2 : IS w' vb (nL B)) (h3 : (mkL m.length S).length = B.length) => sdBefore_any va vb (mkL m.length S) B w' h1 h2 h3 (by have := mkL_len m.length S; omega))
    have HY := Lib.hid (fun S B h hc => gtC_yes (m := m) (S := S) (B := B) h hc)
    have HNO := Lib.hid (fun S B h hc => gtC_no (m := m) (S := S) (B := B) h hc)
    have HGC := Lib.hid (fun S B => show gtC m S B = (orB ((mkL m.length S).map (fun x => m.getD x [])) && (decide ((mkL m.length S).length > B.length) || (decide ((mkL m.length S).length = B.length) && gtB4 (mkL m.length S) B))) from rfl)
    have HST := Lib.hid (MkBest.start (gtR m) m.length)
    have HALL := Lib.hid (fun B (h : MkBest (gtR m) m.length (2 ^ m.length) B) => show B = gtV m from h.all)
    have HCH := Lib.hid (fun S (B : Nat) vv w' (h : w'.ownsRow B 24 1 vv (mkL m.length S).length ((mkL m.length S).map U)) (hb : Below w.heap.size w w') => chosen_IR (m := m) h (fun x hx => (hUc x (mkL_lt hx)).2.below hb))
    obtain ⟨ok, hokd⟩ : ∃ f : Nat → Bool, f = fun S => orB ((mkL m.length S).map (fun x => m.getD x [])) := ⟨_, rfl⟩
    have hoks : ∀ S, orB ((mkL m.length S).map (fun x => m.getD x [])) = ok S := fun S => by rw [hokd]
    simp only [hoks] at HOR HGC
    obtain ⟨CH, hCHd⟩ : ∃ f : Nat → List (List Int), f = fun S => (mkL m.length S).map (fun x => m.getD x []) := ⟨_, rfl⟩
    have hCHs : ∀ S, (mkL m.length S).map (fun x => m.getD x []) = CH S := fun S => by rw [hCHd]
    simp only [hCHs] at HOR HCH
    obtain ⟨G, hG⟩ : ∃ G, G = gtC m := ⟨_, rfl⟩
    rw [← hG] at HY HNO HGC
    obtain ⟨R, hR⟩ : ∃ R, R = gtR m := ⟨_, rfl⟩
    rw [← hR] at HY HNO HST HALL
    obtain ⟨L, hL⟩ : ∃ L, L = gtV m := ⟨_, rfl⟩
    rw [← hL] at HALL ⊢
    obtain ⟨n, hn⟩ : ∃ n, n = m.length := ⟨_, rfl⟩
    rw [← hn] at HC HUC HBE HY HNO HGC HST HALL HCH h18 ⊢
    have hsh := shl_n n h18.2
    have hK2 : 2 ^ n ≤ 256 := Nat.pow_le_pow_right (n := 2) (by omega) h18.2
    have hK1 : 2 ≤ 2 ^ n := Nat.pow_le_pow_right (n := 2) (i := 1) (by omega) h18.1
    obtain ⟨K, hK⟩ : ∃ K, K = 2 ^ n := ⟨_, rfl⟩
    rw [← hK] at HALL hsh hK2 hK1
    clear hc hok hne hml hcell hU hUc hokd hoks hCHd hCHs hG hR hL hn hK hlen
    go_enter Try.func10, Try.ntmps10
    go_wp2_with fail
    refine HC.out.mono ?_
    rintro e w1 ⟨rfl, hb⟩
    have B1 := Lib.hid hb
    clear hb
    go_wp2_with fail
    go_loopw [5, 4] (fun q o wr => ∃ (S : Nat) (B : List Nat), 1 ≤ S ∧ S ≤ K ∧ q = .int .i64 S ∧ Own wr w.heap.size o (nL B) ∧ MkBest R n S B ∧ B.length ≤ 8 ∧ Below w.heap.size w wr) (fun q _ _ => K - (intOf q).toNat)
    case atStart => exact ⟨1, [], Nat.le_refl _, by omega, rfl, World.ownsRow_nil _ _ _ _, HST.out, Nat.zero_le _, B1.out⟩
    case round =>
      obtain ⟨S, B, hS1, hS2, rfl, hown, hbest, hB8, hbel⟩ := hrel
      have HO := Lib.hid hown
      have HM := Lib.hid hbest
      have HB := Lib.hid hbel
      obtain ⟨pb, cb, hbe⟩ := hown.is.sl
      rw [nL_length] at hbe
      subst hbe
      clear hown hbest hbel
      by_cases hlt : S < K
      · have h0 : (0 : Int) ≤ (S : Int) := by omega
        have h1 : (S : Int) < (K : Int) := by omega
        obtain ⟨wo, hwo⟩ : ∃ w', w' = wr := ⟨_, rfl⟩
        subst hwo
        go_wp2_with fail
        (try simp only [hsh])
        have HSH := Lib.hid hsh
        clear hsh
        go_loopw [22, 6, 7] (fun q ii oo wv => ∃ k : Nat, k ≤ n ∧ q = .int .i64 k ∧ Own wv wo.heap.size ii (nL (mkL k S)) ∧ wv.ownsRow wo.heap.size 24 1 oo (mkL k S).length ((mkL k S).map U) ∧ Below wo.heap.size wo wv) (fun q _ _ _ => n - (intOf q).toNat)
        case atStart => exact ⟨0, Nat.zero_le _, rfl, World.ownsRow_nil _ _ _ _, World.ownsRow_nil _ _ _ _, Below.refl _ _⟩
        case round =>
          obtain ⟨k, hk, rfl, hii, hoo, hbel⟩ := hrel
          have HII := Lib.hid hii
          have HOO := Lib.hid hoo
          have HBV := Lib.hid hbel
          obtain ⟨pi, ci, hie⟩ := hii.is.sl
          rw [nL_length] at hie
          subst hie
          clear hii hoo hbel
          by_cases hk2 : k < n
          · have k0 : (0 : Int) ≤ (k : Int) := by omega
            have k1 : (k : Int) < (n : Int) := by omega
            have hu := HUC.out k hk2
            have c1 := keepc (joins HB.out HBV.out) hu.1
            have HUk := Lib.hid hu
            have HSU := Lib.hid (mkL_succ k S)
            have HLI := Lib.hid (show (nL (mkL k S)).length ≤ 1048576 by rw [nL_length]; have := mkL_len k S; omega)
            have HLL := Lib.hid (show ((mkL k S).map U).length ≤ 1048576 by rw [List.length_map]; have := mkL_len k S; omega)
            have HOM := Lib.hid (show wr.ownsRow wo.heap.size 24 1 u7 ((mkL k S).map U).length ((mkL k S).map U) from by rw [List.length_map]; exact HOO.out)
            obtain ⟨u, hu9⟩ : ∃ u, u = U k := ⟨_, rfl⟩
            have HUE := Lib.hid hu9
            rw [← hu9] at c1 HUk
            obtain ⟨ua, uc, hue⟩ := HUk.out.2.sl
            obtain ⟨ul, hul⟩ : ∃ x, x = (m.getD k []).length := ⟨_, rfl⟩
            rw [← hul] at hue
            clear hu hu9 hul
            subst hue
            have hbt := tm_bit S k
            cases hb : S.testBit k with
            | true =>
              rw [hb] at hbt
              have HSK := Lib.hid (show mkL (k + 1) S = mkL k S ++ [k] from by rw [HSU.out, hb]; rfl)
              have HMP := Lib.hid (show (mkL k S ++ [k]).map U = (mkL k S).map U ++ [.slice ua ul uc] from by rw [List.map_append, HUE.out]; rfl)
              clear hb
              go_wp2_with (first
                | (at_builtin; refine wpList_pushK rfl _ _ rfl wo.heap.size _ (nL (mkL k S)) rfl (HII.out.alloc _) wr.heap.size 1 (k : Int) rfl (by simp) HLI.out wo.heap.size wo (HBV.out.alloc HBV.out.size _) (Nat.le_refl _) (by have := HBV.out.size; simp; omega) (by have := HBV.out.size; simp; omega) ?_; intro v4 w4 ho4 hb4 hg4; have OI4 := Lib.hid ho4; have B4 := Lib.hid hb4; have OO4 := Lib.hid (row_kept (HII.out.alloc _) (HOM.out.alloc _) hg4); clear ho4 hb4 hg4)
                | (at_builtin; refine wpList_pushW rfl _ _ rfl wo.heap.size _ ((mkL k S).map U) rfl (OO4.out.alloc _) w4.heap.size 1 (.slice ua ul uc) rfl (by simp) rfl HLL.out wo.heap.size wo (B4.out.alloc B4.out.size _) (Nat.le_refl _) (by have := B4.out.size; simp; omega) (by have := B4.out.size; simp; omega) ?_; intro v5 w5 ho5 hb5 hg5; have OO5 := Lib.hid ho5; have B5 := Lib.hid hb5; have OI5 := Lib.hid (own_kept (OI4.out.alloc _) (OO4.out.alloc _) hg5); clear ho5 hb5 hg5))
              go_roundw
              case rel => exact ⟨k + 1, by omega, by go_num, by rw [HSK.out, nL_add]; exact OI5.out, by rw [HSK.out, HMP.out]; have := OO5.out; rw [List.length_append, List.length_map] at this; rw [List.length_append]; exact this, B5.out⟩
              case measure => simp [intOf]; omega
            | false =>
              rw [hb] at hbt
              have HSK := Lib.hid (show mkL (k + 1) S = mkL k S from by rw [HSU.out, hb]; simp)
              clear hb
              go_wp2_with fail
              go_roundw
              case rel => exact ⟨k + 1, by omega, by go_num, by rw [HSK.out]; exact HII.out, by rw [HSK.out]; exact HOO.out, HBV.out⟩
              case measure => simp [intOf]; omega
          · obtain rfl : k = n := by omega
            have HBW := Lib.hid (joins HB.out HBV.out)
            have HOS := Lib.hid (HOR.out S u7 wr (HCH.out S _ u7 wr HOO.out HBW.out) (ownsRow_cap HOO.out))
            go_wp2_with fail
            refine HOS.out.mono ?_
            rintro e w6 ⟨rfl, hb6⟩
            have B6 := Lib.hid (joins HBW.out hb6)
            have OI6 := Lib.hid (HII.out.below hb6)
            have OB6 := Lib.hid ((HO.out.below HBV.out).below hb6)
            have HG6 := Lib.hid (HGC.out S B)
            have HY6 := Lib.hid (HY.out S B HM.out)
            have HN6 := Lib.hid (HNO.out S B HM.out)
            have HBE6 := Lib.hid (HBE.out S B)
            have hl8 := mkL_len k S
            have HX8 := Lib.hid (show (mkL k S).length ≤ 8 by omega)
            have HB8 := Lib.hid hB8
            obtain ⟨X, hX⟩ : ∃ X, X = mkL k S := ⟨_, rfl⟩
            rw [← hX] at HG6 HY6 HBE6 HX8 OI6 ⊢
            obtain ⟨c, hc⟩ : ∃ c, c = ok S := ⟨_, rfl⟩
            rw [← hc] at HG6 ⊢
            clear hb6 hl8 hX hc hB8
            cases c with
            | false =>
              have HGF := Lib.hid (show G S B = false from by rw [HG6.out]; rfl)
              go_wp2_with fail
              go_roundw
              case rel => exact ⟨S + 1, B, by omega, by omega, by go_num, OB6.out, HN6.out HGF.out, HB8.out, B6.out⟩
              case measure => simp [intOf]; omega
            | true =>
              by_cases h2 : X.length > B.length
              · have HGF := Lib.hid (show G S B = true from by rw [HG6.out, decide_eq_true h2]; rfl)
                have h3 : (B.length : Int) < (X.length : Int) := by omega
                go_wp2_with fail
                go_roundw
                case rel => exact ⟨S + 1, X, by omega, by omega, by go_num, OI6.out.mono HB.out.size, HY6.out HGF.out, HX8.out, B6.out⟩
                case measure => simp [intOf]; omega
              · have h3 : ¬ (B.length : Int) < (X.length : Int) := by omega
                by_cases h4 : X.length = B.length
                · have HBC := Lib.hid (HBE6.out _ _ w6 OI6.out.is OB6.out.is h4)
                  have h5 : ((X.length : Int) == (B.length : Int)) = true := by simpa using (show (X.length : Int) = (B.length : Int) by omega)
                  obtain ⟨d, hd⟩ : ∃ d, d = gtB4 X B := ⟨_, rfl⟩
                  rw [← hd] at HBC HG6
                  rw [h4] at HBC
                  clear hd
                  go_wp2_with fail
                  refine HBC.out.mono ?_
                  rintro e w7 ⟨rfl, hb7⟩
                  have B7 := Lib.hid (joins B6.out hb7)
                  have OI7 := Lib.hid (OI6.out.below hb7)
                  have OB7 := Lib.hid (OB6.out.below hb7)
                  clear hb7
                  cases d with
                  | true =>
                    have HGF := Lib.hid (show G S B = true from by rw [HG6.out, decide_eq_false h2, decide_eq_true h4]; rfl)
                    go_wp2_with fail
                    go_roundw
                    case rel => exact ⟨S + 1, X, by omega, by omega, by go_num, by rw [← h4]; exact OI7.out.mono HB.out.size, HY6.out HGF.out, HX8.out, B7.out⟩
                    case measure => simp [intOf]; omega
                  | false =>
                    have HGF := Lib.hid (show G S B = false from by rw [HG6.out, decide_eq_false h2, decide_eq_true h4]; rfl)
                    go_wp2_with fail
                    go_roundw
                    case rel => exact ⟨S + 1, B, by omega, by omega, by go_num, OB7.out, HN6.out HGF.out, HB8.out, B7.out⟩
                    case measure => simp [intOf]; omega
                · have HGF := Lib.hid (show G S B = false from by rw [HG6.out, decide_eq_false h2, decide_eq_false h4]; rfl)
                  have h5 : ((X.length : Int) == (B.length : Int)) = false := by simpa using (show (X.length : Int) ≠ (B.length : Int) by omega)
                  go_wp2_with fail
                  go_roundw
                  case rel => exact ⟨S + 1, B, by omega, by omega, by go_num, OB6.out, HN6.out HGF.out, HB8.out, B6.out⟩
                  case measure => simp [intOf]; omega
      · obtain rfl : S = K := by omega
        have HE := Lib.hid (HALL.out B HM.out)
        go_wp2_with fail
        go_returns
        exact ⟨_, rfl, by rw [← HE.out]; exact HO.out, HB.out⟩
end Go.Proofs.Ytfjhocmnafdnfaa
