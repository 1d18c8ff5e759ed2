/- Kronecker's products: plain. -/
import Derived.Test.YtbppbkoppbnodaaMaT
namespace Go.Proofs.Ytbppbkoppbnodaa

set_option maxRecDepth 100000
def krQ (s : Int) (y : List Int) (j : Nat) : List Int := (y.take j).map (fun t => (s + t) % 4)
def krP (x y : List Int) (j : Nat) : List Int := (x.take j).flatMap (fun s => krQ s y y.length)
def krRow (x y : List Int) : List Int := krP x y x.length
def krI (x : List Int) (b : List (List Int)) (j : Nat) : List (List Int) := (b.take j).map (krRow x)
def krO (a b : List (List Int)) (j : Nat) : List (List Int) := (a.take j).flatMap (fun x => krI x b b.length)
def krL (a b : List (List Int)) : List (List Int) := krO a b a.length
theorem krQ_zero (s : Int) (y : List Int) : krQ s y 0 = [] := by simp [krQ]
theorem krQ_succ (s : Int) (y : List Int) (j : Nat) (h : j < y.length) : krQ s y (j + 1) = krQ s y j ++ [(s + y.getD j 0) % 4] := by
  unfold krQ
  rw [List.take_succ_eq_append_getElem h, List.map_append]
  simp [List.getD, h]
theorem krQ_len (s : Int) (y : List Int) (j : Nat) : (krQ s y j).length ≤ y.length := by unfold krQ; simp; omega
theorem krQ_full (s : Int) (y : List Int) : (krQ s y y.length).length = y.length := by simp [krQ]
theorem krP_zero (x y : List Int) : krP x y 0 = [] := by simp [krP]
theorem krP_succ (x y : List Int) (j : Nat) (h : j < x.length) : krP x y (j + 1) = krP x y j ++ krQ (x.getD j 0) y y.length := by
  unfold krP
  rw [List.take_succ_eq_append_getElem h, List.flatMap_append]
  simp [List.getD, h]
theorem krP_len (x y : List Int) : ∀ j, j ≤ x.length → (krP x y j).length = j * y.length
  | 0, _ => by simp [krP_zero]
  | j + 1, h => by rw [krP_succ x y j (by omega), List.length_append, krP_len x y j (by omega), krQ_full, Nat.succ_mul]
theorem krRow_len (x y : List Int) : (krRow x y).length = x.length * y.length := krP_len x y _ (Nat.le_refl _)
theorem krI_zero (x : List Int) (b : List (List Int)) : krI x b 0 = [] := by simp [krI]
theorem krI_succ (x : List Int) (b : List (List Int)) (j : Nat) (h : j < b.length) : krI x b (j + 1) = krI x b j ++ [krRow x (b.getD j [])] := by
  unfold krI
  rw [List.take_succ_eq_append_getElem h, List.map_append, getD_at b j h]
  rfl
theorem krI_len (x : List Int) (b : List (List Int)) (j : Nat) (h : j ≤ b.length) : (krI x b j).length = j := by simp [krI, h]
theorem krO_zero (a b : List (List Int)) : krO a b 0 = [] := by simp [krO]
theorem krO_succ (a b : List (List Int)) (j : Nat) (h : j < a.length) : krO a b (j + 1) = krO a b j ++ krI (a.getD j []) b b.length := by
  unfold krO
  rw [List.take_succ_eq_append_getElem h, List.flatMap_append, getD_at a j h]
  simp
theorem krO_len (a b : List (List Int)) : ∀ j, j ≤ a.length → (krO a b j).length = j * b.length
  | 0, _ => by simp [krO_zero]
  | j + 1, h => by rw [krO_succ a b j (by omega), List.length_append, krO_len a b j (by omega), krI_len _ _ _ (Nat.le_refl _), Nat.succ_mul]
def krOk (a b : List (List Int)) : Bool := maOk a && maOk b && decide (a.length * b.length ≤ 8)
def krA (a b : List (List Int)) : List (List Int) := if krOk a b then krL a b else []
theorem tot_rows (ll : List (List Int)) (L : Nat) (h : ∀ l ∈ ll, l.length ≤ L) : tot ll ≤ ll.length * L := by
  induction ll with
  | nil => simp [tot]
  | cons l t ih =>
    have h1 := ih (fun x hx => h x (List.mem_cons_of_mem _ hx))
    have h2 := h l List.mem_cons_self
    simp only [tot, List.length_cons, Nat.succ_mul]
    omega
theorem krO_rows (a b : List (List Int)) (L : Nat) (h : ∀ x ∈ a, ∀ y ∈ b, x.length * y.length ≤ L) : ∀ l ∈ krL a b, l.length ≤ L := by
  intro l hl
  unfold krL krO krI at hl
  simp only [List.mem_flatMap, List.mem_map] at hl
  obtain ⟨x, hx, y, hy, rfl⟩ := hl
  rw [krRow_len]
  exact h x (List.mem_of_mem_take hx) y (List.mem_of_mem_take hy)
theorem krA_tot (a b : List (List Int)) : tot (krA a b) ≤ 1048576 := by
  unfold krA; split
  · rename_i h
    unfold krOk at h
    simp only [Bool.and_eq_true, decide_eq_true_eq] at h
    obtain ⟨⟨ha, hb⟩, h8⟩ := h
    have row : ∀ (m : List (List Int)), maOk m = true → ∀ x ∈ m, x.length ≤ 8 := fun m hm x hx => by
      obtain ⟨i, hi, rfl⟩ := List.getElem_of_mem hx
      rw [← getD_at m i hi, maOk_sq hm i hi]
      exact maOk_le hm
    have h1 := tot_rows (krL a b) 64 (krO_rows a b 64 (fun x hx y hy => Nat.le_trans (Nat.mul_le_mul (row a ha x hx) (row b hb y hy)) (Nat.le_refl _)))
    have h2 : (krL a b).length = a.length * b.length := krO_len a b _ (Nat.le_refl _)
    rw [h2] at h1
    have : a.length * b.length * 64 ≤ 8 * 64 := Nat.mul_le_mul_right _ h8
    omega
  · simp [tot]
end Go.Proofs.Ytbppbkoppbnodaa
