/- The program's KroneckerOf. -/
import Derived.Test.YtbppbkoppbnodaaIMk
namespace Go.Proofs.Ytbppbkoppbnodaa
set_option maxRecDepth 100000
open Go.RowKit

theorem getD_right {α : Type} (l m : List α) (d : α) (i : Nat) (h : l.length ≤ i) : (l ++ m).getD i d = m.getD (i - l.length) d := by
  simp [List.getD, List.getElem?_append_right h]
theorem flat_getD {α β : Type} (f : α → List β) (L : Nat) (hL : 0 < L) (d : β) (dx : α) (xs : List α) : (∀ x ∈ xs, (f x).length = L) → ∀ i, i < xs.length * L → (xs.flatMap f).getD i d = (f (xs.getD (i / L) dx)).getD (i % L) d := by
  induction xs with
  | nil => intro _ i hi; simp at hi
  | cons x t ih =>
    intro h i hi
    have hx := h x List.mem_cons_self
    rw [List.flatMap_cons]
    by_cases hlt : i < L
    · rw [getD_left _ _ _ _ (by rw [hx]; exact hlt), Nat.div_eq_of_lt hlt, Nat.mod_eq_of_lt hlt]
      rfl
    · have hge : L ≤ i := by omega
      rw [List.length_cons, Nat.succ_mul] at hi
      rw [getD_right _ _ _ _ (by rw [hx]; exact hge), hx, ih (fun y hy => h y (List.mem_cons_of_mem _ hy)) (i - L) (by omega)]
      have e1 : i / L = (i - L) / L + 1 := by
        have : i = (i - L) + L := by omega
        rw [this, Nat.add_div_right _ hL]
        simp
      have e2 : (i - L) % L = i % L := by
        have : i = (i - L) + L := by omega
        rw [this, Nat.add_mod_right]
        simp
      rw [e1, e2]
      rfl
theorem krQ_at (s : Int) (y : List Int) (j : Nat) (h : j < y.length) : (krQ s y y.length).getD j 0 = (s + y.getD j 0) % 4 := by
  unfold krQ
  rw [List.take_length]
  simp [List.getD, h]
theorem krRow_at (x y : List Int) (j : Nat) (h : j < x.length * y.length) : (krRow x y).getD j 0 = (x.getD (j / y.length) 0 + y.getD (j % y.length) 0) % 4 := by
  have hL : 0 < y.length := Nat.pos_of_ne_zero (fun e => by rw [e] at h; simp at h)
  unfold krRow krP
  rw [List.take_length, flat_getD (fun s => krQ s y y.length) y.length hL 0 0 x (fun s _ => krQ_full s y) j h, krQ_at _ _ _ (Nat.mod_lt _ hL)]
theorem krL_at (a b : List (List Int)) (i : Nat) (h : i < a.length * b.length) : (krL a b).getD i [] = krRow (a.getD (i / b.length) []) (b.getD (i % b.length) []) := by
  have hL : 0 < b.length := Nat.pos_of_ne_zero (fun e => by rw [e] at h; simp at h)
  unfold krL krO
  rw [List.take_length, flat_getD (fun x => krI x b b.length) b.length hL [] [] a (fun x _ => krI_len x b _ (Nat.le_refl _)) i h]
  unfold krI
  have hm := Nat.mod_lt i hL
  rw [List.take_length]
  simp [List.getD, hm]
theorem kr_gen {a b : List (List Int)} (ha : maOk a = true) (hb : maOk b = true) :
    genR (a.length * b.length) (fun i => gen (a.length * b.length) (fun j => (atM a (i / b.length) (j / b.length) + atM b (i % b.length) (j % b.length)) % 4)) = krL a b := by
  have hlen : (krL a b).length = a.length * b.length := krO_len a b _ (Nat.le_refl _)
  apply getD_ext _ _ []
  · rw [genR_length, hlen]
  · intro i hi
    rw [genR_length] at hi
    have hL : 0 < b.length := (maOk_parts hb).1.1
    have hi1 : i / b.length < a.length := Nat.div_lt_of_lt_mul (by rw [Nat.mul_comm]; exact hi)
    have hi2 : i % b.length < b.length := Nat.mod_lt _ hL
    rw [genR_getD _ _ _ hi, krL_at a b i hi]
    have h1 := maOk_sq ha _ hi1
    have h2 := maOk_sq hb _ hi2
    apply getD_ext _ _ 0
    · rw [gen_length, krRow_len, h1, h2]
    · intro j hj
      rw [gen_length] at hj
      rw [gen_getD _ _ _ hj, krRow_at _ _ _ (by rw [h1, h2]; exact hj), h2]
      rfl
set_option maxHeartbeats 1000000 in
theorem ikroneckerOf (va vb : Value) (a b : List (List Int)) (w : World) (hva : IR w va a) (hvb : IR w vb b) (hla : sz2 a ≤ 1048576) (hlb : sz2 b ≤ 1048576) : Calls Try.prog 19 #[va, vb] w (MakesRB w (krA a b) (krOk a b)) := by
  have HA := Lib.hid (fun w' (h : Below w.heap.size w w') => matrixFrom_any va a w' (hva.below h) hla)
  have HB := Lib.hid (fun w' (h : Below w.heap.size w w') => matrixFrom_any vb b w' (hvb.below h) hlb)
  have HT := Lib.hid (kronecker_any (mfV a) (mfV b) (mfN a) (mfN b) _ _ (mf_MxR a) (mf_MxR b))
  obtain ⟨D, hD⟩ : ∃ C, C = (if mfN a * mfN b ≤ 8 then mxC (sqV (mfN a * mfN b) (kcF (mfV a) (mfV b) (mfN b)) V0) ((mfN a * mfN b : Nat) : Int) else mxC V0 0) := ⟨_, rfl⟩
  have HLS := Lib.hid (show ∀ w, Calls Try.prog 35 #[.agg D] w (MakesRB w (krA a b) (krOk a b)) from fun w => by
    rw [hD]
    by_cases h8 : mfN a * mfN b ≤ 8
    · rw [if_pos h8]
      have hLs := lists_any _ _ _ (kc_MxR (mf_MxR a) (mf_MxR b) h8) w
      cases ha : maOk a with
      | false =>
        have e0 : mfN a = 0 := by unfold mfN; rw [ha]; rfl
        have e1 : krA a b = [] := by unfold krA krOk; rw [ha]; rfl
        have e2 : krOk a b = false := by unfold krOk; rw [ha]; rfl
        rw [e1, e2]
        rw [e0] at hLs ⊢
        simp only [Nat.zero_mul] at hLs ⊢
        exact hLs
      | true =>
        cases hb : maOk b with
        | false =>
          have e0 : mfN b = 0 := by unfold mfN; rw [hb]; rfl
          have e1 : krA a b = [] := by unfold krA krOk; rw [ha, hb]; rfl
          have e2 : krOk a b = false := by unfold krOk; rw [ha, hb]; rfl
          rw [e1, e2]
          rw [e0] at hLs ⊢
          simp only [Nat.mul_zero] at hLs ⊢
          exact hLs
        | true =>
          have na := mf_yes ha
          have nb := mf_yes hb
          have hpos : 1 ≤ mfN a * mfN b := Nat.mul_pos (by rw [na]; exact (maOk_parts ha).1.1) (by rw [nb]; exact (maOk_parts hb).1.1)
          have e2 : krOk a b = true := by unfold krOk; rw [ha, hb, ← na, ← nb, decide_eq_true h8]; rfl
          have e1 : krA a b = krL a b := by unfold krA; rw [e2]; rfl
          rw [decide_eq_true hpos] at hLs
          rw [e1, e2, ← kr_gen ha hb, ← na, ← nb]
          exact hLs
    · rw [if_neg h8]
      have hLs := lists_any _ _ _ (MxR.zero (fun _ _ => 0)) w
      have e2 : krOk a b = false := by
        unfold krOk
        cases ha : maOk a with
        | false => rfl
        | true =>
          cases hb : maOk b with
          | false => rfl
          | true => rw [← mf_yes ha, ← mf_yes hb, decide_eq_false h8]; rfl
      have e1 : krA a b = [] := by unfold krA; rw [e2]; rfl
      rw [e1, e2]
      exact hLs)
  obtain ⟨CA, hCA⟩ : ∃ C, C = mxC (mfV a) (mfN a) := ⟨_, rfl⟩
  obtain ⟨CB, hCB⟩ : ∃ C, C = mxC (mfV b) (mfN b) := ⟨_, rfl⟩
  rw [← hCA] at HA HT
  rw [← hCB] at HB HT
  rw [← hD] at HT
  obtain ⟨pa, cap, rfl⟩ := hva.slice
  obtain ⟨pb, cbp, rfl⟩ := hvb.slice
  clear hva hvb hD hCA hCB
  have B0 := Lib.hid (Below.refl w.heap.size w)
  go_enter Try.func19, Try.ntmps19
  go_wp2_with fail
  refine (HA.out _ B0.out).mono ?_
  rintro e w1 ⟨rfl, hb⟩
  have B1 := Lib.hid (joins B0.out hb)
  clear hb
  go_wp2_with fail
  refine (HB.out _ B1.out).mono ?_
  rintro e w2 ⟨rfl, hb⟩
  have B2 := Lib.hid (joins B1.out hb)
  clear hb
  go_wp2_with fail
  refine (HT.out _).mono ?_
  rintro e w3 ⟨rfl, hb⟩
  have B3 := Lib.hid (joins B2.out hb)
  clear hb
  go_wp2_with fail
  refine (HLS.out _).mono ?_
  rintro e w4 ⟨vr, rfl, ho, hb⟩
  have B4 := Lib.hid (joins B3.out hb)
  have OR := Lib.hid (ho.mono B3.out.size)
  clear hb ho
  go_wp2_with fail
  go_returns
  exact ⟨_, rfl, OR.out, B4.out⟩
end Go.Proofs.Ytbppbkoppbnodaa
