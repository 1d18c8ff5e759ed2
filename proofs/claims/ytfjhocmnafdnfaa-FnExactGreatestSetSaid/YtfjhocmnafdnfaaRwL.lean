/- The laws' helpers over lists of lists: szIntSS, eqIntSS, toIntSS, markIntSS, heldIntSS; objects of a call's own. -/
import Derived.Test.YtfjhocmnafdnfaaRw
import Derived.Deep.RegionHeld3
namespace Go.Proofs.Ytfjhocmnafdnfaa
set_option maxRecDepth 100000
open Go.RowKit

theorem szIntS_yes (a : Option Addr) (n cap : Nat) (left : Int) (w : World) (h1 : (n : Int) ≤ left) (h2 : left ≤ 1048576) : Calls Try.prog 95 #[.slice a n cap, .int .i64 left] w (Ret w (.int .i64 (left - n))) := by
  go_enter Try.func95, Try.ntmps95
  go_wp2_with fail
  go_returns
  exact ⟨rfl, by go_grown⟩
theorem szIntS_no (a : Option Addr) (n cap : Nat) (left : Int) (w : World) (h0 : 0 ≤ left) (h1 : left < (n : Int)) (h2 : left ≤ 1048576) (h3 : n ≤ 9223372036854775807) : Calls Try.prog 95 #[.slice a n cap, .int .i64 left] w (Ret w (.int .i64 (-1))) := by
  go_enter Try.func95, Try.ntmps95
  go_wp2_with fail
  go_returns
  exact ⟨rfl, by go_grown⟩
set_option maxHeartbeats 1000000 in
theorem szIntSS_yes (v : Value) (ll : List (List Int)) (left : Int) (w : World) (hv : IR w v ll) (h1 : (sz2 ll : Int) ≤ left) (h2 : left ≤ 1048576) : Calls Try.prog 9 #[v, .int .i64 left] w (Ret w (.int .i64 (left - sz2 ll))) := by
  obtain ⟨a, cap, rfl⟩ := hv.slice
  have hz : sz2 ll = ll.length + tot ll := rfl
  have HV := Lib.hid hv
  have HZ := Lib.hid hz
  have hb1 : (ll.length : Int) + (tot ll : Int) ≤ left := by omega
  clear hz hv h1
  go_enter Try.func9, Try.ntmps9
  go_wp2_with fail
  go_loopw [5, 1] (fun i q wr => ∃ k : Nat, k ≤ ll.length ∧ i = .int .i64 k ∧ q = .int .i64 (left - ll.length - (tot (ll.take k) : Nat)) ∧ Below w.heap.size w wr) (fun i _ _ => ll.length - (intOf i).toNat)
  case atStart => exact ⟨0, Nat.zero_le _, rfl, congrArg (Value.int .i64) (by simp [tot]), Below.refl _ _⟩
  case round =>
    obtain ⟨k, hk, rfl, rfl, hbel⟩ := hrel
    have HB := Lib.hid hbel
    clear hbel
    have ht := tot_take_le ll k
    by_cases hlt : k < ll.length
    · have hs := tot_take_succ ll k hlt
      have ht2 := tot_take_le ll (k + 1)
      obtain ⟨-, b, off, u, rfl, hc, hu⟩ := (HV.out.below HB.out).at k hlt
      obtain ⟨a', cap', rfl⟩ := hu.sl
      clear hu
      obtain ⟨n, hn⟩ : ∃ n, n = (ll.getD k []).length := ⟨_, rfl⟩
      obtain ⟨t, hte⟩ : ∃ t, t = tot (ll.take k) := ⟨_, rfl⟩
      rw [← hn] at hs hc
      rw [← hte] at hs ht ⊢
      rw [hs] at ht2
      have HS := Lib.hid hs
      clear hs hn hte
      have h0 : (0 : Int) ≤ (k : Int) := by omega
      have h1 : (k : Int) < (ll.length : Int) := by omega
      go_wp2_with (go_at_call 95; refine (szIntS_yes _ _ _ _ _ (by omega) (by omega)).mono ?_; rintro e w2 ⟨rfl, hb2⟩; have HB2 := Lib.hid (joins HB.out hb2); clear hb2)
      go_roundw
      case rel => exact ⟨k + 1, by omega, by go_num, congrArg (Value.int .i64) (by rw [HS.out]; omega), HB2.out⟩
      case measure => simp [intOf]; omega
    · have he : k = ll.length := by omega
      subst he
      go_wp2_with fail
      go_returns
      exact ⟨ret_int (by rw [HZ.out, List.take_length]; omega), HB.out⟩
set_option maxHeartbeats 1000000 in
theorem szIntSS_no (v : Value) (ll : List (List Int)) (left : Int) (w : World) (hv : IR w v ll) (h0 : 0 ≤ left) (h1 : left < (sz2 ll : Int)) (h2 : left ≤ 1048576) : Calls Try.prog 9 #[v, .int .i64 left] w (Ret w (.int .i64 (-1))) := by
  obtain ⟨a, cap, rfl⟩ := hv.slice
  have hz : sz2 ll = ll.length + tot ll := rfl
  have hm := hv.len
  have hm2 := maxLen_val
  have hm3 : ll.length ≤ 9223372036854775807 := by omega
  have HV := Lib.hid hv
  have hb1 : left < (ll.length : Int) + (tot ll : Int) := by omega
  clear hz hv h1 hm hm2
  by_cases hl : (ll.length : Int) ≤ left
  · go_enter Try.func9, Try.ntmps9
    go_wp2_with fail
    go_loopw [5, 1] (fun i q wr => ∃ k : Nat, k ≤ ll.length ∧ i = .int .i64 k ∧ q = .int .i64 (left - ll.length - (tot (ll.take k) : Nat)) ∧ (ll.length : Int) + (tot (ll.take k) : Nat) ≤ left ∧ Below w.heap.size w wr) (fun i _ _ => ll.length - (intOf i).toNat)
    case atStart => exact ⟨0, Nat.zero_le _, rfl, congrArg (Value.int .i64) (by simp [tot]), by simp [tot]; omega, Below.refl _ _⟩
    case round =>
      obtain ⟨k, hk, rfl, rfl, hq, hbel⟩ := hrel
      have HB := Lib.hid hbel
      clear hbel
      by_cases hlt : k < ll.length
      · have hs := tot_take_succ ll k hlt
        obtain ⟨-, b, off, u, rfl, hc, hu⟩ := (HV.out.below HB.out).at k hlt
        have hn63 := hu.le
        obtain ⟨a', cap', rfl⟩ := hu.sl
        clear hu
        obtain ⟨n, hn⟩ : ∃ n, n = (ll.getD k []).length := ⟨_, rfl⟩
        obtain ⟨t, hte⟩ : ∃ t, t = tot (ll.take k) := ⟨_, rfl⟩
        rw [← hn] at hs hc hn63
        rw [← hte] at hs hq ⊢
        have HS := Lib.hid hs
        clear hs hn hte
        have h0' : (0 : Int) ≤ (k : Int) := by omega
        have h1 : (k : Int) < (ll.length : Int) := by omega
        by_cases hfit : (n : Int) ≤ left - ll.length - (t : Nat)
        · go_wp2_with (go_at_call 95; refine (szIntS_yes _ _ _ _ _ (by omega) (by omega)).mono ?_; rintro e w2 ⟨rfl, hb2⟩; have HB2 := Lib.hid (joins HB.out hb2); clear hb2)
          go_roundw
          case rel => exact ⟨k + 1, by omega, by go_num, congrArg (Value.int .i64) (by rw [HS.out]; omega), by rw [HS.out]; omega, HB2.out⟩
          case measure => simp [intOf]; omega
        · go_wp2_with (go_at_call 95; refine (szIntS_no _ _ _ _ _ (by omega) (by omega) (by omega) (by omega)).mono ?_; rintro e w2 ⟨rfl, hb2⟩; have HB2 := Lib.hid (joins HB.out hb2); clear hb2)
          go_returns
          exact ⟨rfl, HB2.out⟩
      · have he : k = ll.length := by omega
        subst he
        rw [List.take_length] at hq
        omega
  · go_enter Try.func9, Try.ntmps9
    go_wp2_with fail
    go_returns
    exact ⟨rfl, by go_grown⟩

set_option maxHeartbeats 1000000 in
theorem eqIntSS_same (va vb : Value) (ll : List (List Int)) (w : World) (ha : IR w va ll) (hb : IR w vb ll) : Calls Try.prog 14 #[va, vb] w (Ret w (.bool true)) := by
  obtain ⟨a, cap, rfl⟩ := ha.slice
  obtain ⟨a', cap', rfl⟩ := hb.slice
  have hm := ha.len
  have hm2 := maxLen_val
  have hm3 : ll.length ≤ 9223372036854775807 := by omega
  have HA := Lib.hid ha
  have HB := Lib.hid hb
  clear hm hm2 ha hb
  go_enter Try.func14, Try.ntmps14
  go_wp2_with fail
  go_loopw [5] (fun i wr => ∃ k : Nat, k ≤ ll.length ∧ i = .int .i64 k ∧ Below w.heap.size w wr) (fun i _ => ll.length - (intOf i).toNat)
  case atStart => exact ⟨0, Nat.zero_le _, rfl, Below.refl _ _⟩
  case round =>
    obtain ⟨k, hk, rfl, hbel⟩ := hrel
    by_cases hlt : k < ll.length
    · obtain ⟨-, b, off, u, rfl, c1, hu⟩ := (HA.out.below hbel).at k hlt
      obtain ⟨-, b', off', u', rfl, c2, hu'⟩ := (HB.out.below hbel).at k hlt
      obtain ⟨l, hl⟩ : ∃ l, l = ll.getD k [] := ⟨_, rfl⟩
      rw [← hl] at hu hu'
      clear hl
      have h0 : (0 : Int) ≤ (k : Int) := by omega
      have h1 : (k : Int) < (ll.length : Int) := by omega
      go_wp2_with fail
      go_region_held3 (fun w' => w'.cell? ⟨b, off + k, none⟩ = some u ∧ w'.cell? ⟨b', off' + k, none⟩ = some u' ∧ IS w' u l ∧ IS w' u' l ∧ Below wr.heap.size wr w')
        (first | (exact ⟨keepd c1, keepd c2, hu, hu', belowN (Below.refl _ _) 1⟩) | (go_split_ands; first | exact ⟨by assumption, by assumption, by assumption, by assumption, by assumption⟩ | exact ⟨keepc hb (by assumption), keepc hb (by assumption), IS.below (by assumption) hb, IS.below (by assumption) hb, joins (by assumption) hb⟩))
        (first
          | (go_at_call 13; go_split_ands; (with_reducible refine (eqIntS_same u u' l _ (by assumption) (by assumption)).mono ?_); rintro e w' ⟨rfl, hb⟩))
      go_split_ands
      have HB := Lib.hid (joins hbel ‹Below wr.heap.size wr _›)
      go_wp2_with fail
      go_roundw
      case rel => exact ⟨k + 1, by omega, by go_num, HB.out⟩
      case measure => simp [intOf]; omega
    · go_wp2_with fail
      go_returns
      exact ⟨rfl, by go_grown⟩

/-! ### toIntSS: a copy of the call's own -/
theorem made_rows (n : Nat) : (madeCells #[Value.slice none 0 0] n).toList = List.replicate n (Value.slice none 0 0) := by
  apply List.ext_getElem
  · simp [madeCells]
  · intro i h1 h2
    simp [madeCells, Nat.mod_one]
theorem rows_at (rs : List Value) (n j : Nat) (hr : rs.length = j) (hj : j < n) : (rs ++ List.replicate (n - j) (Value.slice none 0 0))[j]? = some (.slice none 0 0) := by
  subst hr
  rw [List.getElem?_append_right (Nat.le_refl _), Nat.sub_self, List.getElem?_replicate, if_pos (by omega)]
theorem rows_set (rs : List Value) (n j : Nat) (hr : rs.length = j) (hj : j < n) (r : Value) : (rs ++ List.replicate (n - j) (Value.slice none 0 0)).set j r = (rs ++ [r]) ++ List.replicate (n - (j + 1)) (Value.slice none 0 0) := by
  subst hr
  rw [List.set_append_right _ _ (Nat.le_refl _), Nat.sub_self, show n - rs.length = (n - (rs.length + 1)) + 1 by omega, List.replicate_succ, List.set_cons_zero, List.append_assoc]
  rfl
theorem take_snoc (ll : List (List Int)) (j : Nat) (hj : j < ll.length) : ll.take (j + 1) = ll.take j ++ [ll.getD j []] := by
  rw [List.take_succ_eq_append_getElem hj, getD_at ll j hj]
set_option maxHeartbeats 1000000 in
theorem toIntSS_any (v : Value) (ll : List (List Int)) (w : World) (hv : IR w v ll) (hl : sz2 ll ≤ 1048576) : Calls Try.prog 11 #[v] w (MakesR w ll) := by
  obtain ⟨i0, hi, hz0, hz1, hz2⟩ := info_parts infoRow
  obtain ⟨a, cap, rfl⟩ := hv.slice
  have hz : sz2 ll = ll.length + tot ll := rfl
  have hrow : ∀ j, j < ll.length → (ll.getD j []).length ≤ 1048576 := fun j hj => by have := row_le_tot ll j hj; omega
  have hm3 : ll.length ≤ 1048576 := by omega
  have HV := Lib.hid hv
  have HR := Lib.hid hrow
  clear hz hv hrow hl
  go_enter Try.func11, Try.ntmps11
  go_wp2_with (at_make; refine wpList_make_full _ rfl _ _ 22 rfl w.heap.size 24 i0 (.slice none 0 0) 1 Try.underlying22 hi hz0 hz1 _ _ _ _ ll.length rfl rfl rfl rfl ?b2 ?b3 (Nat.le_refl _) ?_)
  case b2 => rw [hz2]; omega
  case b3 => unfold maxLen; omega
  intro w0 hown0 hgrow0
  rw [made_rows] at hown0
  have HO0 := Lib.hid hown0
  have HG0 := Lib.hid hgrow0
  clear hown0 hgrow0
  go_wp2_with fail
  go_loopw [4] (fun i wr => ∃ j : Nat, j ≤ ll.length ∧ i = .int .i64 j ∧ (∃ rs : List Value, rs.length = j ∧ wr.ownsRow w.heap.size 24 1 (.slice (some ⟨w.heap.size, 0, none⟩) ll.length ll.length) ll.length (rs ++ List.replicate (ll.length - j) (.slice none 0 0)) ∧ RowsOf wr (w.heap.size + 1) rs (ll.take j)) ∧ w.heap.size + 1 ≤ wr.heap.size ∧ Below w.heap.size w wr) (fun i _ => ll.length - (intOf i).toNat)
  case atStart => exact ⟨0, Nat.zero_le _, rfl, ⟨[], rfl, by simpa using HO0.out, RowsOf.nil _ _⟩, by have := (HO0.out.lt w.heap.size rfl).2; omega, (Below.refl _ _).grown HG0.out (Nat.le_refl _) (fun k h => by cases h)⟩
  case round =>
    obtain ⟨j, hj, rfl, ⟨rs, hrl, hown, hrs⟩, hsz, hbel⟩ := hrel
    by_cases hlt : j < ll.length
    · obtain ⟨-, b, off, u, rfl, c3, hu⟩ := (HV.out.below hbel).at j hlt
      have hl1 := HR.out j hlt
      have hts := take_snoc ll j hlt
      obtain ⟨l, hld⟩ : ∃ l, l = ll.getD j [] := ⟨_, rfl⟩
      rw [← hld] at hu hl1 hts
      have HT := Lib.hid hts
      have HTI := Lib.hid (toIntS_any u l wr hu hl1)
      have HO := Lib.hid hown
      have HB := Lib.hid hbel
      have HRS := Lib.hid hrs
      have HRL := Lib.hid hrl
      clear hown hbel hrs hrl hts hld hu hl1
      have h0 : (0 : Int) ≤ (j : Int) := by omega
      have h1 : (j : Int) < (ll.length : Int) := by omega
      go_wp2_with (go_at_call 99; refine (HTI.out).mono ?_; rintro e w2 ⟨r, rfl, hor, hb2⟩; obtain ⟨ra, rc, hre⟩ := hor.is.sl; subst hre; have hown2 := rowBelow HO.out hb2; have c1 : w2.cell? ⟨w.heap.size, j, none⟩ = some (.slice none 0 0) := (hown2.cellAt j (by omega)).trans (rows_at rs ll.length j HRL.out hlt); have c2 := hown2.frozenAt j; have HO2 := Lib.hid hown2; have HOR := Lib.hid hor; have HB2 := Lib.hid hb2; clear hown2 hor hb2)
      go_roundw
      case rel =>
        have hs := HO2.out.stored j (.slice ra l.length rc)
        rw [rows_set rs ll.length j HRL.out hlt] at hs
        have hr2 := HRS.out.below HB2.out
        have hp : RowsOf w2 (w.heap.size + 1) (rs ++ [.slice ra l.length rc]) (ll.take j ++ [l]) := hr2.push (HOR.out.mono hsz) (fun i hi k hk hk' => by
          have h1 := (HRS.out.lt i hi k hk).2
          have h2 := (HOR.out.lt k hk').1
          omega)
        refine ⟨j + 1, by omega, by go_num, ⟨rs ++ [.slice ra l.length rc], by simp [HRL.out], hs.1, ?_⟩, ?_, ?_⟩
        · rw [HT.out]
          exact hp.grown hs.2 (fun i hi k hk e => by
            have h1 := (hp.lt i hi k hk).1
            simp at e
            omega)
        · have h1 := HB2.out.size
          have h2 := hs.2.size
          omega
        · exact (joins HB.out HB2.out).setCell (Nat.le_refl _) _
      case measure => simp [intOf]; omega
    · have he : j = ll.length := by omega
      subst he
      have HO := Lib.hid hown
      have HB := Lib.hid hbel
      have HRS := Lib.hid hrs
      clear hown hbel hrs
      go_wp2_with fail
      go_returns
      refine ⟨_, rfl, ⟨rs, ?_, ?_, ?_⟩, HB.out⟩
      · have := HO.out
        rw [Nat.sub_self] at this
        simpa using this
      · have := HRS.out
        rw [List.take_length] at this
        exact this.mono (by omega)
      · intro i hi k hk
        have h1 := HRS.out
        rw [List.take_length] at h1
        have := (h1.lt i hi k hk).1
        intro h
        simp [Value.ownBlock] at h
        omega

/-! ### marks -/
def mkR (k : Int) (ll : List (List Int)) : List (List Int) := (List.range ll.length).map fun i => marks (k + (tot (ll.take i) : Nat)) (ll.getD i []).length
theorem mkR_length (k : Int) (ll : List (List Int)) : (mkR k ll).length = ll.length := by simp [mkR]
theorem mkR_getD (k : Int) (ll : List (List Int)) (i : Nat) (h : i < ll.length) : (mkR k ll).getD i [] = marks (k + (tot (ll.take i) : Nat)) (ll.getD i []).length := by
  simp [mkR, List.getD, h]
/-- What row i holds when j rows are marked. -/
def mixR (k : Int) (ll : List (List Int)) (j i : Nat) : List Int := if i < j then marks (k + (tot (ll.take i) : Nat)) (ll.getD i []).length else ll.getD i []
set_option maxHeartbeats 1000000 in
theorem markIntSS_rows (S : Nat → Prop) (v : Value) (ll : List (List Int)) (rs : List Value) (k : Int) (w : World) (hv : w.ownsRow 0 24 1 v ll.length rs) (hr : RowsOf w 0 rs ll)
    (ha : ∀ i, i < ll.length → ∀ k, (rs.getD i (.slice none 0 0)).ownBlock = some k → v.ownBlock ≠ some k) (hS : ∀ i, i < ll.length → ∀ k, (rs.getD i (.slice none 0 0)).ownBlock = some k → S k)
    (hk0 : 0 ≤ k) (hk : k + (tot ll : Nat) ≤ 4611686018427387904) :
    Calls Try.prog 15 #[v, .int .i64 k] w (fun e w' => e = .returned (.int .i64 (k + (tot ll : Nat))) ∧ w'.ownsRow 0 24 1 v ll.length rs ∧ RowsOf w' 0 rs (mkR k ll) ∧ Touch w w' S) := by
  have hvv := hv
  have hrl := hr.len
  have hm2 := maxLen_val
  have hap := hr.apart
  obtain ⟨a, cap, rfl, hm3, hcell⟩ : ∃ a cap, v = .slice a ll.length cap ∧ ll.length ≤ 9223372036854775807 ∧ ∀ wr : World, wr.ownsRow 0 24 1 (.slice a ll.length cap) ll.length rs → ∀ j, j < ll.length → ∃ b, a = some ⟨b, 0, none⟩ ∧ wr.cell? ⟨b, j, none⟩ = some (rs.getD j (.slice none 0 0)) := by
    rcases hv.2 with ⟨rfl, h0⟩ | ⟨g, c, cur, rfl, _, _, h1, h2, _⟩
    · exact ⟨none, 0, by rw [h0], by omega, fun wr _ j hj => by omega⟩
    · refine ⟨_, c, rfl, by omega, fun wr h j hj => ⟨g, rfl, ?_⟩⟩
      rw [h.cellAt j (by omega)]
      have : j < rs.length := by omega
      simp [List.getD, this]
  have HV := Lib.hid hvv
  have HR := Lib.hid hr
  have HAP := Lib.hid hap
  have HA := Lib.hid ha
  have HSS := Lib.hid hS
  have HC := Lib.hid hcell
  have HRL := Lib.hid hrl
  clear hv hvv hr hap ha hS hcell hrl hm2
  go_enter Try.func15, Try.ntmps15
  go_wp2_with fail
  go_loopw [5, 1] (fun i q wr => ∃ j : Nat, j ≤ ll.length ∧ i = .int .i64 j ∧ q = .int .i64 (k + (tot (ll.take j) : Nat)) ∧ wr.ownsRow 0 24 1 (.slice a ll.length cap) ll.length rs ∧ (∀ i, i < ll.length → Own wr 0 (rs.getD i (.slice none 0 0)) (mixR k ll j i)) ∧ Touch w wr S) (fun i _ _ => ll.length - (intOf i).toNat)
  case atStart => exact ⟨0, Nat.zero_le _, rfl, congrArg (Value.int .i64) (by simp [tot]), HV.out, fun i hi => by simpa [mixR] using HR.out.own i hi, ⟨rfl, rfl, rfl, Nat.le_refl _, fun _ _ _ => rfl⟩⟩
  case round =>
    obtain ⟨j, hj, rfl, rfl, hown, hrows, htou⟩ := hrel
    by_cases hlt : j < ll.length
    · have hs := tot_take_succ ll j hlt
      have ht2 := tot_take_le ll (j + 1)
      obtain ⟨b, hae, hc⟩ := HC.out wr hown j hlt
      have hu := hrows j hlt
      rw [show mixR k ll j j = ll.getD j [] by simp [mixR]] at hu
      subst hae
      have hmark := markIntS_own 0 _ _ (k + (tot (ll.take j) : Nat)) wr hu (by omega) (by omega)
      have HM := Lib.hid hmark
      have HRO := Lib.hid hrows
      have HO := Lib.hid hown
      have HT := Lib.hid htou
      have HS := Lib.hid hs
      obtain ⟨u, hue⟩ : ∃ u, u = rs.getD j (.slice none 0 0) := ⟨_, rfl⟩
      rw [← hue] at hc HM
      have HU := Lib.hid hue
      obtain ⟨q, hqe⟩ : ∃ q : Int, q = k + (tot (ll.take j) : Nat) := ⟨_, rfl⟩
      rw [← hqe] at HM ⊢
      have HQ := Lib.hid hqe
      obtain ⟨n, hn⟩ : ∃ n, n = (ll.getD j []).length := ⟨_, rfl⟩
      rw [← hn] at HM
      have HN := Lib.hid hn
      clear hs hu hmark hrows hown htou hue hqe hn ht2
      have h0 : (0 : Int) ≤ (j : Int) := by omega
      have h1 : (j : Int) < (ll.length : Int) := by omega
      go_wp2_with (go_at_call 16; refine (HM.out).mono ?_; rintro e w2 ⟨rfl, ho2, hg2⟩; have HO2 := Lib.hid ho2; have HG2 := Lib.hid hg2; clear ho2 hg2)
      go_roundw
      case rel =>
        have hother : ∀ i, i < ll.length → i ≠ j → ∀ k, (rs.getD i (.slice none 0 0)).ownBlock = some k → u.ownBlock ≠ some k := fun i hi hne k h1 h2 => by
          rw [HU.out] at h2
          rcases Nat.lt_or_gt_of_ne hne with h | h
          · exact HAP.out i j h hlt k h1 h2
          · exact HAP.out j i h hi k h2 h1
        refine ⟨j + 1, by omega, by go_num, congrArg (Value.int .i64) (by rw [HQ.out, HN.out, HS.out]; omega), ?_, fun i hi => ?_, ?_⟩
        · refine World.ownsRow.kept HO.out HG2.out ?_
          have := HA.out j hlt
          rw [← HU.out] at this
          cases hk : u.ownBlock with
          | none => exact Or.inr (by simp [Value.ownBlock])
          | some x => exact Or.inr (fun e => this x hk e)
        · by_cases e : i = j
          · subst e
            have := HO2.out
            rw [HU.out, HQ.out, HN.out] at this
            simpa [mixR] using this
          · have h := HRO.out i hi
            have h' := h.grown HG2.out (fun k hk => hother i hi e k hk)
            have : mixR k ll (j + 1) i = mixR k ll j i := by
              unfold mixR
              by_cases e2 : i < j
              · rw [if_pos e2, if_pos (by omega)]
              · rw [if_neg e2, if_neg (by omega)]
            rw [this]
            exact h'
        · exact HT.out.trans ((Touch.of HG2.out).mono (fun x hx => HSS.out j hlt x (by rw [← HU.out]; exact hx)))
      case measure => simp [intOf]; omega
    · have he : j = ll.length := by omega
      subst he
      have HO := Lib.hid hown
      have HRO := Lib.hid hrows
      have HT := Lib.hid htou
      clear hown hrows htou
      go_wp2_with fail
      go_returns
      refine ⟨ret_int (by rw [List.take_length]), HO.out, ⟨by rw [mkR_length]; exact HRL.out, fun i hi => ?_, fun i j hij hj => HAP.out i j hij (by rw [mkR_length] at hj; exact hj)⟩, HT.out⟩
      rw [mkR_length] at hi
      rw [mkR_getD k ll i hi]
      have := HRO.out i hi
      rwa [show mixR k ll ll.length i = marks (k + (tot (ll.take i) : Nat)) (ll.getD i []).length by unfold mixR; rw [if_pos hi]] at this

/-! ### objects -/
/-- The blocks that were born between two sizes. -/
def born (B n : Nat) (k : Nat) : Prop := B ≤ k ∧ k < n
/-- A list of lists in the blocks of S. -/
def OM (w : World) (S : Nat → Prop) (v : Value) (ll : List (List Int)) : Prop :=
  (∃ rs, w.ownsRow 0 24 1 v ll.length rs ∧ RowsOf w 0 rs ll ∧ (∀ i, i < ll.length → ∀ k, (rs.getD i (.slice none 0 0)).ownBlock = some k → v.ownBlock ≠ some k) ∧
    (∀ k, v.ownBlock = some k → S k) ∧ ∀ i, i < ll.length → ∀ k, (rs.getD i (.slice none 0 0)).ownBlock = some k → S k) ∧ ∀ k, S k → k < w.heap.size
theorem OM.hi {w : World} {S : Nat → Prop} {v : Value} {ll : List (List Int)} (h : OM w S v ll) : ∀ k, S k → k < w.heap.size := h.2
theorem OM.of {w : World} {B : Nat} {v : Value} {ll : List (List Int)} (B0 : Nat) (h : OwnR w B v ll) (hB : B0 ≤ B) : OM w (born B0 w.heap.size) v ll := by
  obtain ⟨rs, h1, h2, h3⟩ := h
  exact ⟨⟨rs, rowMono h1 (Nat.zero_le _), h2.mono (Nat.zero_le _), h3, fun k hk => ⟨Nat.le_trans hB (h1.lt k hk).1, (h1.lt k hk).2⟩, fun i hi k hk => ⟨Nat.le_trans hB (h2.lt i hi k hk).1, (h2.lt i hi k hk).2⟩⟩, fun k hk => hk.2⟩
theorem OM.is {w : World} {S : Nat → Prop} {v : Value} {ll : List (List Int)} (h : OM w S v ll) : IR w v ll := by
  obtain ⟨⟨rs, h1, h2, h3, -, -⟩, -⟩ := h
  exact OwnR.is (B := 0) ⟨rs, h1, h2, h3⟩
theorem OM.below {w w' : World} {S : Nat → Prop} {v : Value} {ll : List (List Int)} (h : OM w S v ll) (hb : Below w.heap.size w w') : OM w' S v ll := by
  obtain ⟨⟨rs, h1, h2, h3, h4, h5⟩, h6⟩ := h
  exact ⟨⟨rs, rowBelow h1 hb, h2.below hb, h3, h4, h5⟩, fun k hk => Nat.lt_of_lt_of_le (h6 k hk) hb.size⟩
theorem OM.alloc {w : World} {S : Nat → Prop} {v : Value} {ll : List (List Int)} (h : OM w S v ll) (o : Obj) : OM (w.alloc o) S v ll := by
  obtain ⟨⟨rs, h1, h2, h3, h4, h5⟩, h6⟩ := h
  exact ⟨⟨rs, World.ownsRow.alloc h1 o, h2.alloc o, h3, h4, h5⟩, fun k hk => by have := h6 k hk; simp; omega⟩
theorem row_touch {w w' : World} {S : Nat → Prop} {B : Nat} {E : TypeId} {z : Nat} {v : Value} {n : Nat} {xs : List Value} (h : w.ownsRow B E z v n xs) (ht : Touch w w' S) (hd : ∀ k, v.ownBlock = some k → ¬ S k) : w'.ownsRow B E z v n xs := by
  refine ⟨h.1, ?_⟩
  rcases h.2 with hn | ⟨g, cap, cur, rfl, hg, hh, rest⟩
  · exact .inl hn
  · exact .inr ⟨g, cap, cur, rfl, hg, (ht.block g (Array.getElem?_eq_some_iff.1 hh).1 (hd g rfl)).trans hh, rest⟩
theorem OM.touch {w w' : World} {S S' : Nat → Prop} {v : Value} {ll : List (List Int)} (h : OM w S v ll) (ht : Touch w w' S') (hd : ∀ k, S k → ¬ S' k) : OM w' S v ll := by
  obtain ⟨⟨rs, h1, h2, h3, h4, h5⟩, h6⟩ := h
  exact ⟨⟨rs, row_touch h1 ht (fun k hk => hd k (h4 k hk)), ⟨h2.len, fun i hi => row_touch (h2.own i hi) ht (fun k hk => hd k (h5 i hi k hk)), h2.apart⟩, h3, h4, h5⟩, fun k hk => Nat.lt_of_lt_of_le (h6 k hk) ht.size⟩
theorem OM.mark {w : World} {S : Nat → Prop} {v : Value} {ll : List (List Int)} (h : OM w S v ll) (k : Int) (hk0 : 0 ≤ k) (hk : k + (tot ll : Nat) ≤ 4611686018427387904) :
    Calls Try.prog 15 #[v, .int .i64 k] w (fun e w' => e = .returned (.int .i64 (k + (tot ll : Nat))) ∧ OM w' S v (mkR k ll) ∧ Touch w w' S) := by
  obtain ⟨⟨rs, h1, h2, h3, h4, h5⟩, h6⟩ := h
  refine (markIntSS_rows S v ll rs k w h1 h2 h3 h5 hk0 hk).mono ?_
  rintro e w' ⟨rfl, g1, g2, g3⟩
  refine ⟨rfl, ⟨⟨rs, by rw [mkR_length]; exact g1, g2, fun i hi => h3 i (by rw [mkR_length] at hi; exact hi), h4, fun i hi => h5 i (by rw [mkR_length] at hi; exact hi)⟩, fun k hk => Nat.lt_of_lt_of_le (h6 k hk) g3.size⟩, g3⟩
end Go.Proofs.Ytfjhocmnafdnfaa
