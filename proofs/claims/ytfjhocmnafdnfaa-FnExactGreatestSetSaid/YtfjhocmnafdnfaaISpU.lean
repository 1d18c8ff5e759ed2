/- The program's greatestSet, out of what isUndisturbed and slices.Clone answer. -/
import Derived.Test.YtfjhocmnafdnfaaGst
import Derived.Test.YtfjhocmnafdnfaaICode
namespace Go.Proofs.Ytfjhocmnafdnfaa
set_option maxRecDepth 100000
open Go.RowKit

def nL (l : List Nat) : List Int := l.map (fun k : Nat => (k : Int))
theorem nL_length (l : List Nat) : (nL l).length = l.length := by unfold nL; simp
theorem nL_add (l : List Nat) (i : Nat) : nL (l ++ [i]) = nL l ++ [(i : Int)] := by unfold nL; rw [List.map_append]; rfl
theorem gtL_step (R : Nat → Nat → Bool) (n i : Nat) (set G : List Nat) (h : i < n) : gtL R (n - i) set i G = if set.all (fun j => R i j) then
      gtL R (n - (i + 1)) set (i + 1) (if (gtL R (n - (i + 1)) (set ++ [i]) (i + 1) (set ++ [i])).length > G.length then gtL R (n - (i + 1)) (set ++ [i]) (i + 1) (set ++ [i]) else G)
    else gtL R (n - (i + 1)) set (i + 1) G := by
  obtain ⟨f, hf⟩ : ∃ f, n - i = f + 1 := ⟨n - i - 1, by omega⟩
  have hf2 : n - (i + 1) = f := by omega
  rw [hf, hf2]
  rfl
/-- A list that is the argument or the call's own. -/
def Picks (w : World) (v : Value) (l0 l : List Nat) (e : Ending) (w' : World) : Prop := ∃ u, e = .returned u ∧ IS w' u (nL l) ∧ ((u = v ∧ l = l0) ∨ Own w' w.heap.size u (nL l)) ∧ Below w.heap.size w w'
theorem gtL_len (R : Nat → Nat → Bool) : ∀ (f : Nat) (set : List Nat) (i : Nat) (g : List Nat), (gtL R f set i g).length ≤ max g.length (set.length + f)
  | 0, _, _, g => Nat.le_max_left _ _
  | f + 1, set, i, g => by
    unfold gtL
    have h1 := gtL_len R f (set ++ [i]) (i + 1) (set ++ [i])
    have h2 := gtL_len R f set (i + 1) g
    have h3 := gtL_len R f set (i + 1) (gtL R f (set ++ [i]) (i + 1) (set ++ [i]))
    simp only [List.length_append, List.length_singleton] at h1
    split
    · split <;> omega
    · omega
set_option maxRecDepth 100000 in
set_option maxHeartbeats 4000000 in
theorem greatestSet_any (R : Nat → Nat → Bool) (gC n : Nat) (DD : Nat → Array Value) (hn : n ≤ 8)
    (HU0 : ∀ (i : Nat) (set : List Nat) (v : Value) (w : World), i < n → (∀ x ∈ set, x < n) → set.length ≤ 8 → IS w v (nL set) → AllAt w gC 33 n DD n → Calls Try.prog 177 #[.slice (some ⟨gC, 0, none⟩) n n, .int .i64 i, v] w (Ret w (.bool (set.all (fun j => R i j)))))
    (HC0 : ∀ (l : List Int) (v : Value) (w : World), l.length ≤ 8 → IS w v l → Calls Try.prog 178 #[v] w (Makes w l)) :
    ∀ (f : Nat) (set : List Nat) (next : Nat) (v : Value) (w : World), next + f = n → (∀ x ∈ set, x < next) → set.length ≤ next → IS w v (nL set) → AllAt w gC 33 n DD n →
      Calls Try.prog 102 #[.slice (some ⟨gC, 0, none⟩) n n, v, .int .i64 next] w (Picks w v set (gtL R (n - next) set next set)) := by
  intro f
  induction f using Nat.strongRecOn with
  | _ f ih =>
  intro set next v w hf hset hlen hv hall
  have HU := Lib.hid HU0
  have HC := Lib.hid HC0
  have IH := Lib.hid ih
  have HV := Lib.hid hv
  have HA := Lib.hid hall
  have HST := Lib.hid hset
  have HLN := Lib.hid hlen
  have hnx : next ≤ n := by omega
  obtain ⟨FIN, hFIN⟩ : ∃ F, F = gtL R (n - next) set next set := ⟨_, rfl⟩
  have HF := Lib.hid hFIN
  rw [← hFIN]
  clear HU0 HC0 ih hv hall hset hlen hFIN
  go_enter Try.func102, Try.ntmps102
  go_wp2_with fail
  go_loopw [8, 7] (fun q g wr => ∃ (i : Nat) (G : List Nat), next ≤ i ∧ i ≤ n ∧ q = .int .i64 i ∧ G.length ≤ 8 ∧ gtL R (n - i) set i G = FIN ∧ IS wr g (nL G) ∧ ((g = v ∧ G = set) ∨ Own wr w.heap.size g (nL G)) ∧ Below w.heap.size w wr) (fun q _ _ => n - (intOf q).toNat)
  case atStart => exact ⟨next, set, Nat.le_refl _, hnx, rfl, by have := HLN.out; omega, HF.out.symm, HV.out, Or.inl ⟨rfl, rfl⟩, Below.refl _ _⟩
  case round =>
    obtain ⟨i, G, hi1, hi2, rfl, hGl, hfin, hg, hgo, hbel⟩ := hrel
    have HB := Lib.hid hbel
    have hn63 : (nL G).length = G.length := nL_length G
    obtain ⟨pg, cg, hge⟩ := hg.sl
    rw [hn63] at hge
    subst hge
    have HG := Lib.hid hg
    have HO := Lib.hid hgo
    have HSL := Lib.hid (show set.length ≤ 8 from by have := HLN.out; omega)
    have HFI := Lib.hid hfin
    clear hbel hg hgo hn63 hfin
    by_cases hlt : i < n
    · have h0 : (0 : Int) ≤ (i : Int) := by omega
      have h1 : (i : Int) < (n : Int) := by omega
      have hstep := gtL_step R n i set G hlt
      rw [HFI.out] at hstep
      have HUi := Lib.hid (HU.out i set v wr hlt (fun x hx => by have := HST.out x hx; omega) HSL.out (HV.out.below HB.out) (HA.out.below HB.out))
      obtain ⟨ok, hok⟩ : ∃ b, b = set.all (fun j => R i j) := ⟨_, rfl⟩
      rw [← hok] at HUi hstep
      have HSTP := Lib.hid hstep
      clear hok hstep
      go_wp2_with fail
      refine (HUi.out).mono ?_
      rintro e w1 ⟨rfl, hb1⟩
      have HB1 := Lib.hid (joins HB.out hb1)
      have HG1 := Lib.hid (HG.out.below hb1)
      have HO1 := Lib.hid (HO.out.imp id (fun h => h.below hb1))
      clear hb1
      cases ok with
      | false =>
        have hs := HSTP.out
        rw [if_neg Bool.false_ne_true] at hs
        have HS := Lib.hid hs.symm
        clear hs
        go_wp2_with fail
        go_roundw
        case rel => exact ⟨i + 1, G, by omega, by omega, by go_num, hGl, HS.out, HG1.out, HO1.out, HB1.out⟩
        case measure => simp [intOf]; omega
      | true =>
        have hs := HSTP.out
        rw [if_pos rfl] at hs
        have HS := Lib.hid hs.symm
        have HCl := Lib.hid (HC.out (nL set) v w1 (by rw [nL_length]; exact HSL.out) (HV.out.below HB1.out))
        have HLS := Lib.hid (show (nL set).length ≤ 1048576 by rw [nL_length]; have := HSL.out; omega)
        clear hs
        go_wp2_with fail
        refine (HCl.out).mono ?_
        rintro e w2 ⟨c, rfl, hoc, hb2⟩
        have HOC := Lib.hid hoc
        have HB2 := Lib.hid hb2
        clear hoc hb2
        go_wp2_with (at_builtin; refine wpList_push rfl _ _ rfl w1.heap.size _ (nL set) rfl (HOC.out.alloc _) w2.heap.size 1 (i : Int) rfl (by simp) HLS.out w1.heap.size w1 (HB2.out.alloc HB2.out.size _) (Nat.le_refl _) (by have := HB2.out.size; simp; omega) (by have := HB2.out.size; simp; omega) ?_; intro v3 w3 ho3 hb3; have HO3 := Lib.hid ho3; have HB3 := Lib.hid hb3; clear ho3 hb3)
        have HB3w := Lib.hid (joins HB1.out HB3.out)
        have HIH := Lib.hid (IH.out (n - (i + 1)) (by omega) (set ++ [i]) (i + 1) v3 w3 (by omega) (fun x hx => by
          rcases List.mem_append.1 hx with h2 | h2
          · have := HST.out x h2; omega
          · have : x = i := by simpa using h2
            omega) (by rw [List.length_append]; have := HLN.out; simp; omega) (by rw [nL_add]; exact HO3.out.is) (HA.out.below HB3w.out))
        obtain ⟨G2, hG2⟩ : ∃ G2, G2 = gtL R (n - (i + 1)) (set ++ [i]) (i + 1) (set ++ [i]) := ⟨_, rfl⟩
        have hl2 := gtL_len R (n - (i + 1)) (set ++ [i]) (i + 1) (set ++ [i])
        rw [← hG2] at HIH HS hl2
        have HL2 := Lib.hid (show G2.length ≤ 8 from by simp only [List.length_append, List.length_singleton] at hl2; have := HLN.out; omega)
        clear hl2 hG2
        refine (HIH.out).mono ?_
        rintro e w4 ⟨u, rfl, hu, huo, hb4⟩
        have hu63 : (nL G2).length = G2.length := nL_length G2
        obtain ⟨pu, cu, hue⟩ := hu.sl
        rw [hu63] at hue
        subst hue
        have HB4 := Lib.hid (joins HB3w.out hb4)
        have HG4 := Lib.hid ((HG1.out.below HB3.out).below hb4)
        have HO4 := Lib.hid (HO1.out.imp id (fun h => Own.below (Own.below h HB3.out) hb4))
        have HU4 := Lib.hid hu
        have HUO := Lib.hid (show Own w4 w.heap.size (.slice pu G2.length cu) (nL G2) from by
          rcases huo with ⟨h2, h3⟩ | h2
          · rw [h2, h3, nL_add]; exact (Own.below HO3.out hb4).mono HB1.out.size
          · exact h2.mono HB3w.out.size)
        have hg2 := HL2.out
        clear hb4 hu huo hu63
        by_cases hgt : G2.length > G.length
        · have hs := HS.out
          rw [if_pos hgt] at hs
          have HS2 := Lib.hid hs
          have hgi : (G2.length : Int) > (G.length : Int) := by omega
          clear hs
          go_wp2_with fail
          go_roundw
          case rel => exact ⟨i + 1, G2, by omega, by omega, by go_num, HL2.out, HS2.out, HU4.out, Or.inr HUO.out, HB4.out⟩
          case measure => simp [intOf]; omega
        · have hs := HS.out
          rw [if_neg hgt] at hs
          have HS2 := Lib.hid hs
          have hgi : ¬ (G2.length : Int) > (G.length : Int) := by omega
          clear hs
          go_wp2_with fail
          go_roundw
          case rel => exact ⟨i + 1, G, by omega, by omega, by go_num, hGl, HS2.out, HG4.out, HO4.out, HB4.out⟩
          case measure => simp [intOf]; omega
    · obtain rfl : i = n := by omega
      have hs := HFI.out
      rw [Nat.sub_self] at hs
      have HS := Lib.hid (show G = FIN from hs)
      clear hs
      go_wp2_with fail
      go_returns
      refine ⟨_, rfl, ?_, ?_, HB.out⟩
      · rw [← HS.out]; exact HG.out
      · rw [← HS.out]; exact HO.out
end Go.Proofs.Ytfjhocmnafdnfaa
