/- The model's ExtendCodes. -/
import Derived.Test.YtapmehgdnofgnaaRw
import Derived.Test.YtapmehgdnofgnaaSOrt
import Derived.Test.YtapmehgdnofgnaaSMov
namespace Go.Proofs.Ytapmehgdnofgnaa
set_option maxRecDepth 100000
open Go.RowKit

/-- The block k is one of the rows'. -/
def NB (rs : List Value) (n k : Nat) : Prop := ∃ i, i < n ∧ (rs.getD i (.slice none 0 0)).ownBlock = some k
structure TwoRs (w : World) (B : Nat) (v1 v2 : Value) (rs1 rs2 : List Value) (l1 l2 : List (List Int)) : Prop where
  r1 : w.ownsRow B 31 1 v1 l1.length rs1
  r2 : w.ownsRow B 31 1 v2 l2.length rs2
  o1 : RowsOf w B rs1 l1
  o2 : RowsOf w B rs2 l2
  a11 : ∀ k, NB rs1 l1.length k → v1.ownBlock ≠ some k
  a22 : ∀ k, NB rs2 l2.length k → v2.ownBlock ≠ some k
  a12 : ∀ k, NB rs1 l1.length k → v2.ownBlock ≠ some k
  a21 : ∀ k, NB rs2 l2.length k → v1.ownBlock ≠ some k
  rr : ∀ k, NB rs1 l1.length k → ¬ NB rs2 l2.length k
  vv : ∀ k, v1.ownBlock = some k → v2.ownBlock ≠ some k
def TwoR (w : World) (B : Nat) (v1 v2 : Value) (l1 l2 : List (List Int)) : Prop := ∃ rs1 rs2, TwoRs w B v1 v2 rs1 rs2 l1 l2
theorem TwoR.nil (w : World) (B : Nat) : TwoR w B (.slice none 0 0) (.slice none 0 0) [] [] :=
  ⟨[], [], World.ownsRow_nil _ _ _ _, World.ownsRow_nil _ _ _ _, RowsOf.nil w B, RowsOf.nil w B, fun k ⟨i, h, _⟩ => by simp at h, fun k ⟨i, h, _⟩ => by simp at h, fun k ⟨i, h, _⟩ => by simp at h, fun k ⟨i, h, _⟩ => by simp at h, fun k ⟨i, h, _⟩ => by simp at h, fun k h => by cases h⟩
theorem TwoR.symm {w : World} {B : Nat} {v1 v2 : Value} {l1 l2 : List (List Int)} (h : TwoR w B v1 v2 l1 l2) : TwoR w B v2 v1 l2 l1 := by
  obtain ⟨rs1, rs2, h⟩ := h
  exact ⟨rs2, rs1, h.r2, h.r1, h.o2, h.o1, h.a22, h.a11, h.a21, h.a12, fun k h1 h2 => h.rr k h2 h1, fun k h1 h2 => h.vv k h2 h1⟩
theorem TwoR.below {w w' : World} {B : Nat} {v1 v2 : Value} {l1 l2 : List (List Int)} (h : TwoR w B v1 v2 l1 l2) (hb : Below w.heap.size w w') : TwoR w' B v1 v2 l1 l2 := by
  obtain ⟨rs1, rs2, h⟩ := h
  exact ⟨rs1, rs2, rowBelow h.r1 hb, rowBelow h.r2 hb, h.o1.below hb, h.o2.below hb, h.a11, h.a22, h.a12, h.a21, h.rr, h.vv⟩
theorem RowsOf.nb {w : World} {B : Nat} {rs : List Value} {ll : List (List Int)} (h : RowsOf w B rs ll) {k : Nat} (hk : NB rs ll.length k) : B ≤ k ∧ k < w.heap.size := by
  obtain ⟨i, hi, h1⟩ := hk
  exact h.lt i hi k h1
theorem nb_push {rs : List Value} {ll : List (List Int)} {r : Value} {l : List Int} (hl : rs.length = ll.length) {k : Nat} (h : NB (rs ++ [r]) (ll ++ [l]).length k) : NB rs ll.length k ∨ r.ownBlock = some k := by
  obtain ⟨i, hi, h1⟩ := h
  by_cases e : i < ll.length
  · rw [getD_left _ _ _ _ (by rw [hl]; exact e)] at h1
    exact Or.inl ⟨i, e, h1⟩
  · have : i = ll.length := by simp at hi; omega
    subst this
    rw [← hl, getD_end] at h1
    exact Or.inr h1
set_option maxHeartbeats 1000000 in
/-- One row more in the first list. -/
theorem wpList_pushT {ops : Array Oper} {rest : List Oper} {o : Oper} {a : Act} {w : World} {Q : Exit → Act → World → Prop} (hg : o.guard = none) (s x : Operand)
    (ho : o.op = .call { callee := .builtin .append, args := #[s, x], argTypes := #[22, 22] }) (B : Nat) (v u : Value) (ll mm : List (List Int)) (hs : a.eval s = v)
    (wr : World) (htwo : TwoR wr B v u ll mm) (hwr : Below wr.heap.size wr w)
    (g c : Nat) (r : Value) (l : List Int) (hx : a.eval x = .slice (some ⟨g, 0, none⟩) 1 c) (hc : w.cell? ⟨g, 0, none⟩ = some r) (hr : Own w wr.heap.size r l)
    (hlen : ll.length ≤ 1048576)
    (S : Nat) (w0 : World) (hb : Below S w0 w) (hS : S ≤ B) (hB : B ≤ wr.heap.size) (hSw : S ≤ w.heap.size)
    (hK : ∀ v' w', TwoR w' B v' u (ll ++ [l]) mm → Below S w0 w' → wpList Try.prog ops Q rest (a.put o.dst v') w') : wpList Try.prog ops Q (o :: rest) a w := by
  obtain ⟨i0, hi, hz0, hz1, hz2⟩ := info_parts infoRow
  obtain ⟨rs, rs2, ht⟩ := htwo
  have hrow := rowBelow ht.r1 hwr
  have hrow2 := rowBelow ht.r2 hwr
  have hrs := ht.o1.below hwr
  have hrs2 := ht.o2.below hwr
  have hsz := hwr.size
  have hul := World.ownsRow.lt ht.r2
  have hvl := World.ownsRow.lt ht.r1
  refine wpList_append_own_at (P := Try.prog) (w := w) hg s x 22 ho B 31 i0 (.slice none 0 0) 1 24 Try.underlying22 hi hz0 hz1 hz2 rfl (by decide) v ll.length rs hs hrow ⟨g, 0, none⟩ 1 c [r] hx rfl ?_ ?_ ?_ ?_ (Nat.le_trans hB hsz) ?_
  · intro j u hj
    match j, hj with
    | 0, hj => simp at hj; subst hj; simpa [Addr.add] using hc
  · intro u hu; simp at hu; subst hu; exact hr.oneCell
  · unfold maxLen; omega
  · omega
  · intro v' w' hown' hgr _ hblk
    have hrv : ∀ k, r.ownBlock = some k → v.ownBlock ≠ some k := fun k h1 h2 => by have := (hr.lt k h1).1; have := (hvl k h2).2; omega
    have hrk : ∀ k, r.ownBlock = some k → wr.heap.size ≤ k ∧ k < w.heap.size := fun k h1 => hr.lt k h1
    have hnb1 : ∀ k, NB rs ll.length k → k < wr.heap.size := fun k h => (ht.o1.nb h).2
    have hnb2 : ∀ k, NB rs2 mm.length k → k < wr.heap.size := fun k h => (ht.o2.nb h).2
    have hv' : ∀ k, k < w.heap.size → v.ownBlock ≠ some k → v'.ownBlock ≠ some k := fun k h1 h2 h3 => by
      rcases hblk with e | e
      · rw [e] at h3; exact h2 h3
      · rw [e] at h3; simp at h3; omega
    have hvu : v.ownBlock ≠ u.ownBlock ∨ u.ownBlock = none := by
      cases hu : u.ownBlock with
      | none => exact Or.inr rfl
      | some k => exact Or.inl (fun e => ht.vv k e hu)
    refine hK v' w' ⟨rs ++ [r], rs2, ?_, ?_, ?_, ?_, ?_, ht.a22, ?_, ?_, ?_, ?_⟩ (hb.grown hgr hSw (fun k hk => Nat.le_trans hS (hvl k hk).1))
    · rw [List.length_append]; exact hown'
    · exact World.ownsRow.kept hrow2 hgr (hvu.symm.imp id (fun h e => h e.symm))
    · refine (hrs.grown hgr (fun i hi k hk => ht.a11 k ⟨i, hi, hk⟩)).push ((hr.mono hB).grown hgr (fun k hk => hrv k hk)) (fun i hi k hk hk' => ?_)
      have h1 := (hr.lt k hk').1
      have h2 := hnb1 k ⟨i, hi, hk⟩
      omega
    · exact hrs2.grown hgr (fun i hi k hk => ht.a21 k ⟨i, hi, hk⟩)
    · intro k hk
      rcases nb_push ht.o1.len hk with h | h
      · exact hv' k (by have := hnb1 k h; omega) (ht.a11 k h)
      · exact hv' k (hrk k h).2 (hrv k h)
    · intro k hk
      rcases nb_push ht.o1.len hk with h | h
      · exact ht.a12 k h
      · intro h2; have := (hrk k h).1; have := (hul k h2).2; omega
    · intro k hk
      exact hv' k (by have := hnb2 k hk; omega) (ht.a21 k hk)
    · intro k hk h2
      rcases nb_push ht.o1.len hk with h | h
      · exact ht.rr k h h2
      · have := (hrk k h).1; have := hnb2 k h2; omega
    · intro k h1 h2
      have hlt := (hul k h2).2
      exact hv' k (by omega) (fun e => ht.vv k e h2) h1
theorem RowsOf.append {w : World} {B : Nat} {rs1 rs2 : List Value} {l1 l2 : List (List Int)} (h1 : RowsOf w B rs1 l1) (h2 : RowsOf w B rs2 l2) (hr : ∀ k, NB rs1 l1.length k → ¬ NB rs2 l2.length k) : RowsOf w B (rs1 ++ rs2) (l1 ++ l2) := by
  have g1 : ∀ i, i < l1.length → (rs1 ++ rs2).getD i (.slice none 0 0) = rs1.getD i (.slice none 0 0) := fun i hi => getD_left _ _ _ _ (by rw [h1.len]; exact hi)
  have g2 : ∀ i, ¬ i < l1.length → (rs1 ++ rs2).getD i (.slice none 0 0) = rs2.getD (i - l1.length) (.slice none 0 0) := fun i hi => by
    rw [List.getD_eq_getElem?_getD, List.getElem?_append_right (by rw [h1.len]; omega), h1.len, ← List.getD_eq_getElem?_getD]
  have g3 : ∀ i, ¬ i < l1.length → (l1 ++ l2).getD i [] = l2.getD (i - l1.length) [] := fun i hi => by
    rw [List.getD_eq_getElem?_getD, List.getElem?_append_right (by omega), ← List.getD_eq_getElem?_getD]
  refine ⟨by simp [h1.len, h2.len], fun i hi => ?_, fun i j hij hj k hk hk2 => ?_⟩
  · rw [List.length_append] at hi
    by_cases e : i < l1.length
    · rw [g1 i e, getD_left _ _ _ _ e]; exact h1.own i e
    · rw [g2 i e, g3 i e]; exact h2.own _ (by omega)
  · rw [List.length_append] at hj
    by_cases e : i < l1.length
    · rw [g1 i e] at hk
      by_cases e2 : j < l1.length
      · rw [g1 j e2] at hk2
        exact h1.apart i j hij e2 k hk hk2
      · rw [g2 j e2] at hk2
        exact hr k ⟨i, e, hk⟩ ⟨j - l1.length, by omega, hk2⟩
    · rw [g2 i e] at hk
      rw [g2 j (by omega)] at hk2
      exact h2.apart (i - l1.length) (j - l1.length) (by omega) (by omega) k hk hk2
theorem nb_append {rs1 rs2 : List Value} {l1 l2 : List (List Int)} (hl : rs1.length = l1.length) {k i : Nat} (hi : i < (l1 ++ l2).length) (h : ((rs1 ++ rs2).getD i (.slice none 0 0)).ownBlock = some k) : NB rs1 l1.length k ∨ NB rs2 l2.length k := by
  rw [List.length_append] at hi
  by_cases e : i < l1.length
  · rw [getD_left _ _ _ _ (by rw [hl]; exact e)] at h
    exact Or.inl ⟨i, e, h⟩
  · rw [List.getD_eq_getElem?_getD, List.getElem?_append_right (by rw [hl]; omega), hl, ← List.getD_eq_getElem?_getD] at h
    exact Or.inr ⟨i - l1.length, by omega, h⟩
set_option maxHeartbeats 1000000 in
/-- The second list behind the first. -/
theorem wpList_joinT {ops : Array Oper} {rest : List Oper} {o : Oper} {a : Act} {w : World} {Q : Exit → Act → World → Prop} (hg : o.guard = none) (s x : Operand)
    (ho : o.op = .call { callee := .builtin .append, args := #[s, x], argTypes := #[22, 22] }) (B : Nat) (v u : Value) (ll mm : List (List Int)) (hs : a.eval s = v) (hx : a.eval x = u)
    (htwo : TwoR w B v u ll mm) (hm : 0 < mm.length) (hl1 : ll.length ≤ 1024) (hl2 : mm.length ≤ 1024)
    (S : Nat) (w0 : World) (hb : Below S w0 w) (hS : S ≤ B) (hB : B ≤ w.heap.size)
    (hK : ∀ v' w', OwnR w' B v' (ll ++ mm) → Below S w0 w' → wpList Try.prog ops Q rest (a.put o.dst v') w') : wpList Try.prog ops Q (o :: rest) a w := by
  obtain ⟨i0, hi, hz0, hz1, hz2⟩ := info_parts infoRow
  obtain ⟨rs, rs2, ht⟩ := htwo
  have hvl := World.ownsRow.lt ht.r1
  rcases ht.r2.2 with ⟨_, h0⟩ | ⟨g, cap, cur, rfl, hg2, hh, hn, hcap, hsz, htake⟩
  · omega
  refine wpList_append_own_at (P := Try.prog) (w := w) hg s x 22 ho B 31 i0 (.slice none 0 0) 1 24 Try.underlying22 hi hz0 hz1 hz2 rfl (by decide) v ll.length rs hs ht.r1 ⟨g, 0, none⟩ mm.length cap rs2 hx (by rw [ht.o2.len, Nat.mul_one]) (World.ownsRow.cells ht.r2 rfl) ?_ ?_ ?_ hB ?_
  · intro u hu
    obtain ⟨i, hi, rfl⟩ := List.getElem_of_mem hu
    have := ht.o2.own i (by rw [← ht.o2.len]; exact hi)
    rw [List.getD_eq_getElem?_getD, List.getElem?_eq_getElem hi] at this
    exact this.oneCell
  · unfold maxLen; omega
  · omega
  · intro v' w' hown' hgr _ hblk
    have hv' : ∀ k, k < w.heap.size → v.ownBlock ≠ some k → v'.ownBlock ≠ some k := fun k h1 h2 h3 => by
      rcases hblk with e | e
      · rw [e] at h3; exact h2 h3
      · rw [e] at h3; simp at h3; omega
    refine hK v' w' ⟨rs ++ rs2, by rw [List.length_append]; exact hown', ?_, ?_⟩ (hb.grown hgr (Nat.le_trans hS hB) (fun k hk => Nat.le_trans hS (hvl k hk).1))
    · exact (ht.o1.grown hgr (fun i hi k hk => ht.a11 k ⟨i, hi, hk⟩)).append (ht.o2.grown hgr (fun i hi k hk => ht.a21 k ⟨i, hi, hk⟩)) ht.rr
    · intro i hi k hk
      rcases nb_append ht.o1.len hi hk with h | h
      · exact hv' k (ht.o1.nb h).2 (ht.a11 k h)
      · exact hv' k (ht.o2.nb h).2 (ht.a21 k h)
def hasB8 (l : List Int) (n : Int) : Bool := decide (n ∈ l)
theorem hasB8_no_take (l : List Int) (n : Int) (k : Nat) (hk : k < l.length) (h : n ∉ l.take k) (h2 : l.getD k 0 ≠ n) : n ∉ l.take (k + 1) := by
  rw [List.take_succ_eq_append_getElem hk, List.mem_append]
  rintro (h' | h')
  · exact h h'
  · simp at h'
    apply h2
    simp [List.getD, hk, h']
theorem hasB8_at (l : List Int) (n : Int) (k : Nat) (hk : k < l.length) (h : l.getD k 0 = n) : hasB8 l n = true := by
  apply decide_eq_true
  rw [← h]
  simp [List.getD, hk]
theorem hasB8_none (l : List Int) (n : Int) (h : n ∉ l) : hasB8 l n = false := decide_eq_false h

set_option maxHeartbeats 400000 in
theorem l1Has8_any (v : Value) (l : List Int) (n : Int) (w : World) (hv : IS w v l) : Calls Try.prog 51 #[v, .int .i64 n] w (Ret w (.bool (hasB8 l n))) := by
  rcases hv with ⟨rfl, a, cap, rfl⟩ | ⟨hn, b, off, cap, rfl, hm, hc⟩
  · go_enter Try.func51, Try.ntmps51
    go_wp2_with fail
    go_loop [9] (fun i => i = .int .i64 0) (fun _ => 0)
    case atStart => rfl
    case round =>
      subst hrel
      go_wp2_with fail
      go_returns
      exact ⟨ret_bool (by simp [hasB8]), by go_grown⟩
  · have hm2 := maxLen_val
    have hm3 : l.length ≤ 9223372036854775807 := by omega
    have HC := Lib.hid hc
    clear hm hm2 hn hc
    go_enter Try.func51, Try.ntmps51
    go_wp2_with fail
    go_loop [9] (fun i => ∃ k : Nat, k ≤ l.length ∧ i = .int .i64 k ∧ n ∉ l.take k) (fun i => l.length - (intOf i).toNat)
    case atStart => exact ⟨0, Nat.zero_le _, rfl, by simp⟩
    case round =>
      obtain ⟨k, hk, rfl, hall⟩ := hrel
      have HA := Lib.hid hall
      clear hall
      by_cases hlt : k < l.length
      · have c1 := HC.out k hlt
        obtain ⟨x, hx⟩ : ∃ x, x = l.getD k 0 := ⟨_, rfl⟩
        rw [← hx] at c1
        have HX := Lib.hid hx
        clear hx
        have h0 : (0 : Int) ≤ (k : Int) := by omega
        have h1 : (k : Int) < (l.length : Int) := by omega
        by_cases hp : x = n
        · subst hp
          go_wp2_with fail
          go_returns
          exact ⟨ret_bool (by rw [hasB8_at l _ k hlt HX.out.symm]), by go_grown⟩
        · go_wp2_with fail
          go_round
          case rel => exact ⟨k + 1, by omega, by go_num, hasB8_no_take l n k hlt HA.out (by rw [← HX.out]; exact hp)⟩
          case measure => simp [intOf]; omega
      · have hh := HA.out
        rw [List.take_of_length_le (by omega)] at hh
        have HA2 := Lib.hid hh
        clear hh
        go_wp2_with fail
        go_returns
        exact ⟨ret_bool (by rw [hasB8_none l n HA2.out]), by go_grown⟩

/-- Each code behind itself; each in front of itself with each phase turned by 2. -/
def exP (s : List Int) : List Int := s ++ s
def exQ (s : List Int) : List Int := s ++ turnG s 2
def exL (m : List (List Int)) : List (List Int) := m.map exP ++ m.map exQ
def exB (m : List (List Int)) : Bool := cdsOk m && decide (m.length ≤ 4) && hasB8 [1, 2, 4, 8] (cdN m)
def exF (m : List (List Int)) : List (List Int) := if exB m then exL m else []
theorem exMap (g : List Int → List Int) (m : List (List Int)) (k : Nat) (h : k < m.length) : (m.take (k + 1)).map g = (m.take k).map g ++ [g (m.getD k [])] := by
  rw [List.take_succ_eq_append_getElem h, List.map_append, getD_at m k h]
  rfl
theorem cdsOk_seqs {m : List (List Int)} (h : cdsOk m = true) (i : Nat) (hi : i < m.length) : isSeq (m.getD i []) = true ∧ (m.getD i []).length = cdN m := by
  unfold cdsOk at h
  rw [Bool.and_eq_true] at h
  have h2 := List.all_eq_true.1 h.2 (m.getD i []) (by rw [getD_at m i hi]; exact List.getElem_mem hi)
  unfold cdRow at h2
  rw [Bool.and_eq_true, decide_eq_true_eq] at h2
  exact ⟨(cdOk_seq h2.1).1, h2.2⟩
theorem cdsOk_len {m : List (List Int)} (h : cdsOk m = true) : 1 ≤ m.length ∧ m.length ≤ 8 := by
  unfold cdsOk at h
  rw [Bool.and_eq_true, decide_eq_true_eq] at h
  exact h.1
set_option maxRecDepth 100000 in
set_option maxHeartbeats 4000000 in
theorem sExtendCodes (v : Value) (m : List (List Int)) (w : World) (hv : IR w v m) (hlen : sz2 m ≤ 1048576) : Calls Try.prog 25 #[v] w (MakesRB w (exF m) (exB m)) := by
  have HCD := Lib.hid (sdCodes_any v m w hv hlen)
  have HV := Lib.hid hv
  obtain ⟨a, cap, rfl⟩ := hv.slice
  have hm63 := hv.len
  have hm2 := maxLen_val
  have hdef : exB m = (cdsOk m && decide (m.length ≤ 4) && hasB8 [1, 2, 4, 8] (cdN m)) := rfl
  have hfin : exB m = false → exF m = [] := fun h => by unfold exF; rw [h]; rfl
  have hyes : exB m = true → exF m = exL m := fun h => by unfold exF; rw [h]; rfl
  cases h1 : cdsOk m with
  | false =>
    have hb := show exB m = false by rw [hdef, h1]; rfl
    rw [hb, hfin hb]
    rw [h1] at HCD
    clear hdef hfin hyes hb h1 hv
    go_enter Try.func25, Try.ntmps25
    go_wp2_with fail
    refine (HCD.out).mono ?_
    rintro e w1 ⟨rfl, hb1⟩
    go_wp2_with fail
    go_returns
    exact ⟨_, rfl, OwnR.nil _ _, hb1⟩
  | true =>
  rw [h1] at HCD
  have hl8 := cdsOk_len h1
  by_cases h4 : m.length ≤ 4
  case neg =>
    have hb := show exB m = false by rw [hdef, decide_eq_false h4, Bool.and_false]; rfl
    rw [hb, hfin hb]
    have h4i : (m.length : Int) > 4 := by omega
    clear hdef hfin hyes hb h1 hv
    go_enter Try.func25, Try.ntmps25
    go_wp2_with fail
    refine (HCD.out).mono ?_
    rintro e w1 ⟨rfl, hb1⟩
    go_wp2_with fail
    go_returns
    exact ⟨_, rfl, OwnR.nil _ _, hb1⟩
  have h4i : ¬ (m.length : Int) > 4 := by omega
  have hn0 : 0 < m.length := by omega
  have HSQ := Lib.hid (fun i hi => cdsOk_seqs h1 i hi)
  have HDF := Lib.hid (show exB m = hasB8 [1, 2, 4, 8] (cdN m) by rw [hdef, h1, decide_eq_true h4]; rfl)
  have HFN := Lib.hid hfin
  have HYS := Lib.hid hyes
  have HL4 := Lib.hid h4
  have HN0 := Lib.hid hn0
  clear hdef hfin hyes h1 hv hl8
  have h0i : (0 : Int) < (m.length : Int) := by omega
  go_enter Try.func25, Try.ntmps25
  go_wp2_with fail
  refine (HCD.out).mono ?_
  rintro e w1 ⟨rfl, hb1⟩
  have HB1 := Lib.hid hb1
  obtain ⟨-, b0, off0, u0, hau0, hc0, hu0⟩ := (HV.out.below hb1).at 0 HN0.out
  rw [Nat.add_zero] at hc0
  obtain ⟨a0', cap0', rfl⟩ := hu0.sl
  have hle0 := hu0.le
  have hcn : (m.getD 0 []).length = cdN m := rfl
  rw [hcn] at hc0 hle0
  subst hau0
  obtain ⟨wl, hwl⟩ : ∃ w', w' = w1.alloc (.cells #[.int .i64 1, .int .i64 2, .int .i64 4, .int .i64 8] 3) := ⟨_, rfl⟩
  have hbl : Below w1.heap.size w1 wl := by rw [hwl]; exact belowa (Below.refl _ _) _
  have HBL := Lib.hid (joins hb1 hbl)
  have his : IS wl (.slice (some ⟨w1.heap.size, 0, none⟩) 4 4) [1, 2, 4, 8] := Or.inr ⟨by simp, w1.heap.size, 0, 4, rfl, by unfold maxLen; decide, fun i hi => by
    rw [hwl, World.cell?_alloc_new]
    match i, hi with
    | 0, _ => rfl
    | 1, _ => rfl
    | 2, _ => rfl
    | 3, _ => rfl⟩
  obtain ⟨N, hN⟩ : ∃ N, N = cdN m := ⟨_, rfl⟩
  rw [← hN] at hc0 hle0 HDF
  have HHS := Lib.hid (l1Has8_any _ [1, 2, 4, 8] (N : Int) wl his)
  have c0l := keepc hbl hc0
  rw [hwl] at c0l
  clear hb1 hu0 hcn hN his hbl hc0
  go_wp2_with fail
  rw [← hwl]
  clear hwl c0l
  refine (HHS.out).mono ?_
  rintro e w2 ⟨rfl, hb2⟩
  have HB2 := Lib.hid (joins HBL.out hb2)
  clear hb2
  cases hh : hasB8 [1, 2, 4, 8] (N : Int) with
  | false =>
    have hb := show exB m = false by rw [HDF.out, hh]
    have hf := HFN.out hb
    go_wp2_with fail
    go_returns
    exact ⟨_, by rw [hb]; rfl, by rw [hf]; exact OwnR.nil _ _, HB2.out⟩
  | true =>
  have hb := show exB m = true by rw [HDF.out, hh]
  have HEND := Lib.hid (And.intro hb (HYS.out hb))
  have HV2 := Lib.hid (HV.out.below HB2.out)
  clear hh hb
  go_wp2_with fail
  go_loopw [27, 4, 5] (fun i x y wr => ∃ k : Nat, k ≤ m.length ∧ i = .int .i64 k ∧ TwoR wr w.heap.size x y ((m.take k).map exP) ((m.take k).map exQ) ∧ Below w.heap.size w wr) (fun i _ _ _ => m.length - (intOf i).toNat)
  case atStart => exact ⟨0, Nat.zero_le _, rfl, TwoR.nil _ _, HB2.out⟩
  case round =>
    obtain ⟨k, hk, rfl, htwo, hbel⟩ := hrel
    have HB := Lib.hid hbel
    have HT := Lib.hid htwo
    clear htwo hbel
    by_cases hlt : k < m.length
    · have h0 : (0 : Int) ≤ (k : Int) := by omega
      have h1 : (k : Int) < (m.length : Int) := by omega
      obtain ⟨-, b, off, u, hau, c1w, HUW0⟩ := HV.out.at k hlt
      have hu := HUW0.below HB.out
      have c1 := keepc HB.out c1w
      clear c1w
      obtain ⟨rfl, rfl⟩ : b0 = b ∧ off0 = off := by
        simp only [Option.some.injEq, Addr.mk.injEq] at hau
        exact ⟨hau.1, hau.2.1⟩
      clear hau
      have hsq := HSQ.out k hlt
      have HS1 := Lib.hid (exMap exP m k hlt)
      have HS2 := Lib.hid (exMap exQ m k hlt)
      obtain ⟨l, hl⟩ : ∃ l, l = m.getD k [] := ⟨_, rfl⟩
      rw [← hl] at hu HUW0 hsq HS1 HS2
      have h32 := isSeq_len hsq.1
      have HU := Lib.hid hu
      have HUW := Lib.hid HUW0
      have HOW := Lib.hid (fun (w' : World) (h : IS w' u l) => l1Own_any u l w' h (by omega))
      have HTU := Lib.hid (fun (w' : World) (h : IS w' u l) => phTurn_any u l 2 w' h hsq.1 (by omega) (by omega))
      have HL1 := Lib.hid (show l.length ≤ 1048576 by omega)
      have HL2 := Lib.hid (show (turnG l 2).length ≤ 1048576 by unfold turnG; rw [gen_length]; omega)
      have HKL := Lib.hid (show ((m.take k).map exP).length ≤ 1048576 by rw [List.length_map, List.length_take]; have := HL4.out; omega)
      have HKQ := Lib.hid (show ((m.take k).map exQ).length ≤ 1048576 by rw [List.length_map, List.length_take]; have := HL4.out; omega)
      obtain ⟨PP, hPP⟩ : ∃ P, P = (m.take k).map exP := ⟨_, rfl⟩
      obtain ⟨QQ, hQQ⟩ : ∃ P, P = (m.take k).map exQ := ⟨_, rfl⟩
      rw [← hPP] at HT HS1 HKL
      rw [← hQQ] at HT HS2 HKQ
      clear hl hu HUW0 hsq h32 hPP hQQ
      go_wp2_with fail
      refine (HOW.out _ HU.out).mono ?_
      rintro e w3 ⟨r, rfl, hor, hb3⟩
      have HOR := Lib.hid hor
      have HB3 := Lib.hid hb3
      have HU3 := Lib.hid (HU.out.below hb3)
      clear hor hb3
      go_wp2_with (first
        | (at_builtin; refine wpList_pushAll rfl _ _ rfl wr.heap.size _ l rfl HOR.out _ l rfl HU3.out HL1.out HL1.out wr.heap.size wr HB3.out (Nat.le_refl _) HB3.out.size HB3.out.size ?_; intro r4 w4 ho4 hb4; have HO4 := Lib.hid ho4; have HB4 := Lib.hid hb4; obtain ⟨ra, rc, hre⟩ := ho4.is.sl; subst hre; clear ho4 hb4)
        | (at_builtin; refine wpList_pushT rfl _ _ rfl w.heap.size _ _ PP QQ rfl wr HT.out (HB4.out.alloc HB4.out.size _) w4.heap.size 1 _ (l ++ l) rfl (by simp) (HO4.out.alloc _) HKL.out w.heap.size w (belowa (joins HB.out HB4.out) _) (Nat.le_refl _) HB.out.size (by have := HB.out.size; have := HB4.out.size; simp; omega) ?_; intro v5 w5 ht5 hb5; have HT5 := Lib.hid ht5.symm; have HB5 := Lib.hid hb5; have HU5 := Lib.hid (HUW.out.below hb5); clear ht5 hb5))
      refine (HOW.out _ HU5.out).mono ?_
      rintro e w6 ⟨r, rfl, hor, hb6⟩
      have HOR6 := Lib.hid hor
      have HB6 := Lib.hid hb6
      have HU6 := Lib.hid (HU5.out.below hb6)
      clear hor hb6
      go_wp2_with fail
      refine (HTU.out _ HU6.out).mono ?_
      rintro e w7 ⟨r7, rfl, hor, hb7⟩
      have HOR7 := Lib.hid (HOR6.out.below hb7)
      have HQ7 := Lib.hid hor.is
      have HB7 := Lib.hid (joins HB6.out hb7)
      clear hor hb7
      go_wp2_with (first
        | (at_builtin; refine wpList_pushAll rfl _ _ rfl w5.heap.size _ l rfl HOR7.out _ (turnG l 2) rfl HQ7.out HL1.out HL2.out w5.heap.size w5 HB7.out (Nat.le_refl _) HB7.out.size HB7.out.size ?_; intro r8 w8 ho8 hb8; have HO8 := Lib.hid ho8; have HB8 := Lib.hid hb8; obtain ⟨ra8, rc8, hre⟩ := ho8.is.sl; subst hre; clear ho8 hb8)
        | (at_builtin; refine wpList_pushT rfl _ _ rfl w.heap.size _ _ QQ _ rfl w5 HT5.out (HB8.out.alloc HB8.out.size _) w8.heap.size 1 _ (l ++ turnG l 2) rfl (by simp) (HO8.out.alloc _) HKQ.out w.heap.size w (belowa (joins HB5.out HB8.out) _) (Nat.le_refl _) HB5.out.size (by have := HB5.out.size; have := HB8.out.size; simp; omega) ?_; intro v9 w9 ht9 hb9; have HT9 := Lib.hid ht9.symm; have HB9 := Lib.hid hb9; clear ht9 hb9))
      go_roundw
      case rel => exact ⟨k + 1, by omega, by go_num, by rw [HS1.out, HS2.out]; exact HT9.out, HB9.out⟩
      case measure => simp [intOf]; omega
    · obtain rfl : k = m.length := by omega
      have hT := HT.out
      rw [List.take_length] at hT
      have HT2 := Lib.hid hT
      have HM := Lib.hid (show 0 < (m.map exQ).length by rw [List.length_map]; exact HN0.out)
      have HM1 := Lib.hid (show (m.map exP).length ≤ 1024 by rw [List.length_map]; have := HL4.out; omega)
      have HM2 := Lib.hid (show (m.map exQ).length ≤ 1024 by rw [List.length_map]; have := HL4.out; omega)
      clear hT
      go_wp2_with (at_builtin; refine wpList_joinT rfl _ _ rfl w.heap.size _ _ _ _ rfl rfl HT2.out HM.out HM1.out HM2.out w.heap.size w HB.out (Nat.le_refl _) HB.out.size ?_; intro v9 w9 ho9 hb9; have HO9 := Lib.hid ho9; have HB9 := Lib.hid hb9; clear ho9 hb9)
      go_returns
      exact ⟨_, by rw [HEND.out.1]; rfl, by rw [HEND.out.2]; exact HO9.out, HB9.out⟩
end Go.Proofs.Ytapmehgdnofgnaa
