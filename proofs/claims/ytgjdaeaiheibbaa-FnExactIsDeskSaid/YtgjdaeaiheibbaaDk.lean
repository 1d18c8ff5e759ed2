/- Desks: how the laws compare, mark and copy them; FirstDesk, IsDesk: the model's and the program's. -/
import Derived.Test.YtgjdaeaiheibbaaPhs
import Derived.Test.YtgjdaeaiheibbaaBox
import Derived.Test.YtgjdaeaiheibbaaCur
namespace Go.Proofs.Ytgjdaeaiheibbaa
set_option maxRecDepth 100000
open Go.RowKit

theorem at_next {w u : World} {o : Obj} {off : Nat} {v : Value} (h : u.cell? ⟨(w.alloc o).heap.size, off, none⟩ = some v) : u.cell? ⟨w.heap.size + 1, off, none⟩ = some v := by
  have e : (w.alloc o).heap.size = w.heap.size + 1 := by simp
  rwa [e] at h
theorem alloc_below (w : World) (o : Obj) : Below w.heap.size w (w.alloc o) := belowa (Below.refl _ _) o
/-- A desk reads as two lists. -/
def DI (w : World) (v : Value) (l m : List Int) : Prop := ∃ a b, v = .agg #[a, b] ∧ IS w a l ∧ IS w b m
/-- A desk of the call's own: its two lists share no memory. -/
def DO (w : World) (B : Nat) (v : Value) (l m : List Int) : Prop := ∃ a b, v = .agg #[a, b] ∧ Own w B a l ∧ Own w B b m ∧ ∀ k, a.ownBlock = some k → b.ownBlock ≠ some k
theorem DO.is {w : World} {B : Nat} {v : Value} {l m : List Int} (h : DO w B v l m) : DI w v l m := by
  obtain ⟨a, b, rfl, h1, h2, -⟩ := h
  exact ⟨a, b, rfl, h1.is, h2.is⟩
theorem DO.below {w w' : World} {B : Nat} {v : Value} {l m : List Int} (h : DO w B v l m) (hb : Below w.heap.size w w') : DO w' B v l m := by
  obtain ⟨a, b, rfl, h1, h2, h3⟩ := h
  exact ⟨a, b, rfl, h1.below hb, h2.below hb, h3⟩
theorem DO.mono {w : World} {B B' : Nat} {v : Value} {l m : List Int} (h : DO w B v l m) (hB : B' ≤ B) : DO w B' v l m := by
  obtain ⟨a, b, rfl, h1, h2, h3⟩ := h
  exact ⟨a, b, rfl, h1.mono hB, h2.mono hB, h3⟩
theorem DI.below {w w' : World} {v : Value} {l m : List Int} (h : DI w v l m) (hb : Below w.heap.size w w') : DI w' v l m := by
  obtain ⟨a, b, rfl, h1, h2⟩ := h
  exact ⟨a, b, rfl, h1.below hb, h2.below hb⟩
/-- What may turn while a desk is marked: its two lists alone. -/
def Turns (w : World) (v : Value) (w' : World) : Prop := ∃ a b wm, v = .agg #[a, b] ∧ w.grownBy wm a.ownBlock ∧ wm.grownBy w' b.ownBlock
theorem DO.lt {w : World} {B : Nat} {v : Value} {l m : List Int} (h : DO w B v l m) : ∀ a b k, v = .agg #[a, b] → (a.ownBlock = some k ∨ b.ownBlock = some k) → B ≤ k ∧ k < w.heap.size := by
  obtain ⟨a, b, rfl, h1, h2, -⟩ := h
  intro a' b' k e hk
  simp at e
  obtain ⟨rfl, rfl⟩ := e
  rcases hk with hk | hk
  · exact h1.lt k hk
  · exact h2.lt k hk
theorem DO.kept {w w' : World} {B : Nat} {v u : Value} {l m : List Int} (h : DO w B v l m) (ht : Turns w u w') (hap : ∀ a b c d k, v = .agg #[a, b] → u = .agg #[c, d] → (a.ownBlock = some k ∨ b.ownBlock = some k) → (c.ownBlock = some k ∨ d.ownBlock = some k) → False) : DO w' B v l m := by
  obtain ⟨a, b, rfl, h1, h2, h3⟩ := h
  obtain ⟨c, d, wm, rfl, g1, g2⟩ := ht
  have q := fun k => hap a b c d k rfl rfl
  exact ⟨a, b, rfl, (h1.grown g1 (fun k hk e => q k (Or.inl hk) (Or.inl e))).grown g2 (fun k hk e => q k (Or.inl hk) (Or.inr e)), (h2.grown g1 (fun k hk e => q k (Or.inr hk) (Or.inl e))).grown g2 (fun k hk e => q k (Or.inr hk) (Or.inr e)), h3⟩
/-- A desk made before a world stays while one made since is marked. -/
theorem DO.before {w w' w0 w1 : World} {B C : Nat} {v u : Value} {l m x y x' y' : List Int} (h : DO w B v l m) (ht : Turns w u w') (hv : DO w0 B v x y) (hu : DO w1 C u x' y') (hC : w0.heap.size ≤ C) : DO w' B v l m :=
  h.kept ht (fun a b c d k e1 e2 k1 k2 => by have := (hv.lt a b k e1 k1).2; have := (hu.lt c d k e2 k2).1; omega)
theorem DO.after {w w' w0 w1 : World} {B C : Nat} {v u : Value} {l m x y x' y' : List Int} (h : DO w B v l m) (ht : Turns w u w') (hv : DO w0 B v x y) (hu : DO w1 C u x' y') (hB : w1.heap.size ≤ B) : DO w' B v l m :=
  h.kept ht (fun a b c d k e1 e2 k1 k2 => by have := (hv.lt a b k e1 k1).1; have := (hu.lt c d k e2 k2).2; omega)
theorem turns_below {W w w' w1 : World} {C : Nat} {u : Value} {x y : List Int} (h : Below W.heap.size W w) (ht : Turns w u w') (hu : DO w1 C u x y) (hC : W.heap.size ≤ C) : Below W.heap.size W w' := by
  obtain ⟨c, d, wm, rfl, g1, g2⟩ := ht
  have q := hu.lt c d
  have h1 := gjoin h g1 (fun k hk => by have := (q k rfl (Or.inl hk)).1; omega)
  exact gjoin h1 g2 (fun k hk => by have := (q k rfl (Or.inr hk)).1; omega)
theorem turns_size {w w' : World} {u : Value} (ht : Turns w u w') : w.heap.size ≤ w'.heap.size := by
  obtain ⟨c, d, wm, rfl, g1, g2⟩ := ht
  exact Nat.le_trans g1.size g2.size
/-- A cell of a block that is none of a desk's lists. -/
theorem turns_cell {w w' w1 : World} {C : Nat} {u : Value} {x y : List Int} (ht : Turns w u w') (hu : DO w1 C u x y) {a : Addr} {v : Value} (h : w.cell? a = some v) (hC : a.block < C) : w'.cell? a = some v := by
  obtain ⟨c, d, wm, rfl, g1, g2⟩ := ht
  have q := hu.lt c d
  have e := cell_lt h
  have h1 := cell_grown h g1 e (fun e2 => by have := (q _ rfl (Or.inl e2)).1; omega)
  exact cell_grown h1 g2 (cell_lt h1) (fun e2 => by have := (q _ rfl (Or.inr e2)).1; omega)
/-- A cell of a block made behind a desk. -/
theorem turns_cell' {w w' w1 : World} {C : Nat} {u : Value} {x y : List Int} (ht : Turns w u w') (hu : DO w1 C u x y) {a : Addr} {v : Value} (h : w.cell? a = some v) (hC : w1.heap.size ≤ a.block) : w'.cell? a = some v := by
  obtain ⟨c, d, wm, rfl, g1, g2⟩ := ht
  have q := hu.lt c d
  have e := cell_lt h
  have h1 := cell_grown h g1 e (fun e2 => by have := (q _ rfl (Or.inl e2)).2; omega)
  exact cell_grown h1 g2 (cell_lt h1) (fun e2 => by have := (q _ rfl (Or.inr e2)).2; omega)
set_option maxHeartbeats 1000000 in
theorem eqDesk_same (u v : Value) (l m : List Int) (w : World) (hu : DI w u l m) (hv : DI w v l m) : Calls Try.prog 7 #[u, v] w (Ret w (.bool true)) := by
  obtain ⟨a, b, rfl, ha, hb⟩ := hu
  obtain ⟨c, d, rfl, hc, hd⟩ := hv
  have c0 := keepa (.cells #[c, d] 24) (cell_new0 w a b 24)
  have c1 := keepa (.cells #[c, d] 24) (cell_new1 w a b 24)
  have c2 := at_next (cell_new0 (w.alloc (.cells #[a, b] 24)) c d 24)
  have c3 := at_next (cell_new1 (w.alloc (.cells #[a, b] 24)) c d 24)
  have hB := belowa (alloc_below w (.cells #[a, b] 24)) (.cells #[c, d] 24)
  have HA := Lib.hid ha
  have HB := Lib.hid hb
  have HC := Lib.hid hc
  have HD := Lib.hid hd
  have H0 := Lib.hid hB
  obtain ⟨a1, a2, rfl⟩ := ha.shape
  obtain ⟨b1, b2, rfl⟩ := hb.shape
  obtain ⟨c1', c2', rfl⟩ := hc.shape
  obtain ⟨d1, d2, rfl⟩ := hd.shape
  clear ha hb hc hd hB
  go_enter Try.func7, Try.ntmps7
  go_wp2_with fail
  refine (eqIntS_same _ _ l _ (HA.out.below H0.out) (HC.out.below H0.out)).mono ?_
  rintro e w1 ⟨rfl, hb1⟩
  have H1 := Lib.hid (joins H0.out hb1)
  have c1 := keepc hb1 c1
  have c3 := keepc hb1 c3
  clear hb1
  go_wp2_with fail
  refine (eqIntS_same _ _ m _ (HB.out.below H1.out) (HD.out.below H1.out)).mono ?_
  rintro e w2 ⟨rfl, hb2⟩
  have H2 := Lib.hid (joins H1.out hb2)
  clear hb2
  go_wp2_with fail
  go_returns
  exact ⟨rfl, H2.out⟩
set_option maxHeartbeats 1000000 in
theorem markDesk_own (B : Nat) (v : Value) (l m : List Int) (k : Int) (w : World) (hv : DO w B v l m) (hk0 : 0 ≤ k) (hk : k + l.length + m.length ≤ 4611686018427387904) :
    Calls Try.prog 8 #[v, .int .i64 k] w (fun e w' => e = .returned (.int .i64 (k + l.length + m.length)) ∧ DO w' B v (marks k l.length) (marks (k + l.length) m.length) ∧ Turns w v w') := by
  obtain ⟨a, b, rfl, ha, hb, hap⟩ := hv
  have c0 := cell_new0 w a b 24
  have c1 := cell_new1 w a b 24
  have HA := Lib.hid (ha.below (alloc_below w (.cells #[a, b] 24)))
  have HB := Lib.hid (hb.below (alloc_below w (.cells #[a, b] 24)))
  have H0 := Lib.hid (alloc_below w (.cells #[a, b] 24))
  have HAP := Lib.hid hap
  have HLA := Lib.hid ha.lt
  have HLB := Lib.hid hb.lt
  obtain ⟨a1, a2, rfl⟩ := ha.is.shape
  obtain ⟨b1, b2, rfl⟩ := hb.is.shape
  clear ha hb hap
  go_enter Try.func8, Try.ntmps8
  go_wp2_with fail
  refine (markIntS_own B _ l k _ HA.out hk0 (by omega)).mono ?_
  rintro e w1 ⟨rfl, ho1, hg1⟩
  have HO := Lib.hid ho1
  have HG := Lib.hid hg1
  have HB1 := Lib.hid (HB.out.grown hg1 (fun k hk e => HAP.out k e hk))
  have c1 := cell_grown c1 hg1 (by simp) (fun e => by have := (HLA.out _ e).2; exact Nat.lt_irrefl _ this)
  clear ho1 hg1 c0
  go_wp2_with fail
  refine (markIntS_own B _ m (k + l.length) _ HB1.out (by omega) (by omega)).mono ?_
  rintro e w2 ⟨rfl, ho2, hg2⟩
  have HO2 := Lib.hid ho2
  have HG2 := Lib.hid hg2
  clear ho2 hg2
  go_wp2_with fail
  go_returns
  exact ⟨rfl, ⟨_, _, rfl, HO.out.grown HG2.out (fun k hk e => HAP.out k hk e), HO2.out, HAP.out⟩, ⟨_, _, w1, rfl, grown_trans (grown_of_below H0.out _) HG.out, HG2.out⟩⟩
set_option maxHeartbeats 1000000 in
theorem heldDesk_marks (v : Value) (k : Int) (n n' : Nat) (w : World) (hv : DI w v (marks k n) (marks (k + n) n')) (hk0 : 0 ≤ k) (hk : k + n + n' ≤ 4611686018427387904) :
    Calls Try.prog 9 #[v, .int .i64 k] w (Ret w (.int .i64 (k + n + n'))) := by
  obtain ⟨a, b, rfl, ha, hb⟩ := hv
  have c0 := cell_new0 w a b 24
  have c1 := cell_new1 w a b 24
  have H0 := Lib.hid (alloc_below w (.cells #[a, b] 24))
  have HA := Lib.hid ha
  have HB := Lib.hid hb
  obtain ⟨a1, a2, ea⟩ := ha.shape
  obtain ⟨b1, b2, eb⟩ := hb.shape
  rw [marks_length] at ea eb
  subst ea eb
  clear ha hb
  go_enter Try.func9, Try.ntmps9
  go_wp2_with fail
  refine (heldIntS_marks _ k n _ (HA.out.below H0.out) hk0 (by omega)).mono ?_
  rintro e w1 ⟨rfl, hb1⟩
  have H1 := Lib.hid (joins H0.out hb1)
  have c1 := keepc hb1 c1
  have g0 : ¬ (k + (n : Int)) < 0 := by omega
  clear hb1
  go_wp2_with fail
  refine (heldIntS_marks _ (k + n) n' _ (HB.out.below H1.out) (by omega) (by omega)).mono ?_
  rintro e w2 ⟨rfl, hb2⟩
  have H2 := Lib.hid (joins H1.out hb2)
  have g1 : ¬ (k + (n : Int) + (n' : Int)) < 0 := by omega
  clear hb2
  go_wp2_with fail
  go_returns
  exact ⟨rfl, H2.out⟩
def MakesD (w : World) (l m : List Int) (e : Ending) (w' : World) : Prop := ∃ v, e = .returned v ∧ DO w' w.heap.size v l m ∧ Below w.heap.size w w'
set_option maxHeartbeats 1000000 in
theorem coGood_any (v : Value) (l m : List Int) (w : World) (hv : DI w v l m) (hl : l.length ≤ 1048576) (hm : m.length ≤ 1048576) : Calls Try.prog 18 #[v] w (Ret w (.bool (isSeq l && isSeq m))) := by
  obtain ⟨a, b, rfl, ha, hb⟩ := hv
  have c0 := cell_new0 w a b 24
  have c1 := cell_new1 w a b 24
  have H0 := Lib.hid (alloc_below w (.cells #[a, b] 24))
  have HA := Lib.hid (fun w' (h : Below w.heap.size w w') => phIs_any a l w' (ha.below h) hl)
  have HB := Lib.hid (fun w' (h : Below w.heap.size w w') => phIs_any b m w' (hb.below h) hm)
  obtain ⟨a1, a2, rfl⟩ := ha.shape
  obtain ⟨b1, b2, rfl⟩ := hb.shape
  obtain ⟨q, hq⟩ : ∃ q, q = isSeq m := ⟨_, rfl⟩
  rw [← hq] at HB ⊢
  cases hp : isSeq l with
  | true =>
    rw [hp] at HA
    rw [Bool.true_and]
    clear ha hb hl hm hp hq
    go_enter Try.func18, Try.ntmps18
    go_wp2_with fail
    refine (HA.out _ H0.out).mono ?_
    rintro e w1 ⟨rfl, hb1⟩
    have H1 := Lib.hid (joins H0.out hb1)
    have c1 := keepc hb1 c1
    clear hb1
    go_wp2_with fail
    refine (HB.out _ H1.out).mono ?_
    rintro e w2 ⟨rfl, hb2⟩
    have H2 := Lib.hid (joins H1.out hb2)
    clear hb2
    go_wp2_with fail
    go_returns
    exact ⟨rfl, H2.out⟩
  | false =>
    rw [hp] at HA
    rw [Bool.false_and]
    clear ha hb hl hm hp hq
    go_enter Try.func18, Try.ntmps18
    go_wp2_with fail
    refine (HA.out _ H0.out).mono ?_
    rintro e w1 ⟨rfl, hb1⟩
    have H1 := Lib.hid (joins H0.out hb1)
    clear hb1
    go_wp2_with fail
    go_returns
    exact ⟨rfl, H1.out⟩
set_option maxHeartbeats 1000000 in
theorem iisDesk (v : Value) (l m : List Int) (w : World) (hv : DI w v l m) (hl : l.length ≤ 1048576) (hm : m.length ≤ 1048576) : Calls Try.prog 13 #[v] w (Ret w (.bool (isSeq l && isSeq m))) := by
  obtain ⟨a, b, rfl, ha, hb⟩ := hv
  have c0 := cell_new0 w a b 24
  have c1 := cell_new1 w a b 24
  have H0 := Lib.hid (alloc_below w (.cells #[a, b] 24))
  have HA := Lib.hid (fun w' (h : Below w.heap.size w w') => isSequence_any a l w' (ha.below h) hl)
  have HB := Lib.hid (fun w' (h : Below w.heap.size w w') => isSequence_any b m w' (hb.below h) hm)
  obtain ⟨a1, a2, rfl⟩ := ha.shape
  obtain ⟨b1, b2, rfl⟩ := hb.shape
  obtain ⟨q, hq⟩ : ∃ q, q = isSeq m := ⟨_, rfl⟩
  rw [← hq] at HB ⊢
  cases hp : isSeq l with
  | true =>
    rw [hp] at HA
    rw [Bool.true_and]
    clear ha hb hl hm hp hq
    go_enter Try.func13, Try.ntmps13
    go_wp2_with fail
    refine (HA.out _ H0.out).mono ?_
    rintro e w1 ⟨rfl, hb1⟩
    have H1 := Lib.hid (joins H0.out hb1)
    have c1 := keepc hb1 c1
    clear hb1
    go_wp2_with fail
    refine (HB.out _ H1.out).mono ?_
    rintro e w2 ⟨rfl, hb2⟩
    have H2 := Lib.hid (joins H1.out hb2)
    clear hb2
    go_wp2_with fail
    go_returns
    exact ⟨rfl, H2.out⟩
  | false =>
    rw [hp] at HA
    rw [Bool.false_and]
    clear ha hb hl hm hp hq
    go_enter Try.func13, Try.ntmps13
    go_wp2_with fail
    refine (HA.out _ H0.out).mono ?_
    rintro e w1 ⟨rfl, hb1⟩
    have H1 := Lib.hid (joins H0.out hb1)
    clear hb1
    go_wp2_with fail
    go_returns
    exact ⟨rfl, H1.out⟩
set_option maxHeartbeats 1000000 in
theorem sisDesk (v : Value) (l m : List Int) (w : World) (hv : DI w v l m) (hl : l.length ≤ 1048576) (hm : m.length ≤ 1048576) : Calls Try.prog 11 #[v] w (Ret w (.bool (isSeq l && isSeq m))) := by
  have HC := Lib.hid (fun w' (h : Below w.heap.size w w') => coGood_any v l m w' (hv.below h) hl hm)
  obtain ⟨a, b, rfl, ha, hb⟩ := hv
  have c0 := cell_new0 w a b 24
  have c1 := cell_new1 w a b 24
  have H0 := Lib.hid (alloc_below w (.cells #[a, b] 24))
  obtain ⟨a1, a2, rfl⟩ := ha.shape
  obtain ⟨b1, b2, rfl⟩ := hb.shape
  obtain ⟨q, hq⟩ : ∃ q, q = (isSeq l && isSeq m) := ⟨_, rfl⟩
  rw [← hq] at HC ⊢
  clear ha hb hl hm hq
  go_enter Try.func11, Try.ntmps11
  go_wp2_with fail
  refine (HC.out _ H0.out).mono ?_
  rintro e w1 ⟨rfl, hb1⟩
  have H1 := Lib.hid (joins H0.out hb1)
  clear hb1
  go_wp2_with fail
  go_returns
  exact ⟨rfl, H1.out⟩
theorem own_lit {w : World} {B g : Nat} {l : List Int} (hg : B ≤ g) (h : w.heap[g]? = some (.cells (l.map (Value.int .i64)).toArray 3 (0, 0))) (hl : l.length ≤ maxLen) : Own w B (.slice (some ⟨g, 0, none⟩) l.length l.length) l :=
  ⟨by simp, Or.inr ⟨g, l.length, _, rfl, hg, h, Nat.le_refl _, hl, by simp, by simp [List.take_of_length_le]⟩⟩
set_option maxHeartbeats 1000000 in
theorem sfirstDesk (w : World) : Calls Try.prog 5 #[] w (MakesD w [0, 0] [0, 2]) := by
  have c0 : ∀ a b c d : Value, (((w.alloc (.cells #[.slice (some ⟨w.heap.size + 1, 0, none⟩) 2 2, .slice (some ⟨w.heap.size + 1 + 1, 0, none⟩) 2 2] 24)).alloc (.cells #[a, b] 3)).alloc (.cells #[c, d] 3)).cell? ⟨w.heap.size, 0, none⟩ = some (.slice (some ⟨w.heap.size + 1, 0, none⟩) 2 2) := fun a b c d => keepa _ (keepa _ (cell_new0 _ _ _ _))
  have c1 : ∀ a b c d : Value, (((w.alloc (.cells #[.slice (some ⟨w.heap.size + 1, 0, none⟩) 2 2, .slice (some ⟨w.heap.size + 1 + 1, 0, none⟩) 2 2] 24)).alloc (.cells #[a, b] 3)).alloc (.cells #[c, d] 3)).cell? ⟨w.heap.size, 1, none⟩ = some (.slice (some ⟨w.heap.size + 1 + 1, 0, none⟩) 2 2) := fun a b c d => keepa _ (keepa _ (cell_new1 _ _ _ _))
  go_enter Try.func5, Try.ntmps5
  go_wp2
  refine bodyPost_ret (by simp [results, Try.results5, go_sem, c0, c1]; try rfl) rfl ?_
  refine ⟨_, rfl, ⟨_, _, rfl, own_lit (l := [0, 0]) (g := w.heap.size + 1) (by omega) ?_ (by decide), own_lit (l := [0, 2]) (g := w.heap.size + 1 + 1) (by omega) ?_ (by decide), ?_⟩, ?_⟩
  · have h1 := heap_alloc_new (w.alloc (.cells #[.slice (some ⟨w.heap.size + 1, 0, none⟩) 2 2, .slice (some ⟨w.heap.size + 1 + 1, 0, none⟩) 2 2] 24)) (.cells #[.int .i64 0, .int .i64 0] 3)
    have e : (w.alloc (.cells #[.slice (some ⟨w.heap.size + 1, 0, none⟩) 2 2, .slice (some ⟨w.heap.size + 1 + 1, 0, none⟩) 2 2] 24)).heap.size = w.heap.size + 1 := by simp
    rw [e] at h1
    exact ((alloc_below _ _).block _ (by simp)).trans h1
  · have h1 := heap_alloc_new ((w.alloc (.cells #[.slice (some ⟨w.heap.size + 1, 0, none⟩) 2 2, .slice (some ⟨w.heap.size + 1 + 1, 0, none⟩) 2 2] 24)).alloc (.cells #[.int .i64 0, .int .i64 0] 3)) (.cells #[.int .i64 0, .int .i64 2] 3)
    have e : ((w.alloc (.cells #[.slice (some ⟨w.heap.size + 1, 0, none⟩) 2 2, .slice (some ⟨w.heap.size + 1 + 1, 0, none⟩) 2 2] 24)).alloc (.cells #[.int .i64 0, .int .i64 0] 3)).heap.size = w.heap.size + 1 + 1 := by simp
    rw [e] at h1
    exact h1
  · intro k h1 h2
    cases h1
    simp [Value.ownBlock] at h2
  · exact belowa (belowa (alloc_below _ _) _) _
set_option maxHeartbeats 1000000 in
theorem ifirstDesk (w : World) : Calls Try.prog 6 #[] w (MakesD w [0, 0] [0, 2]) := by
  have c0 : ∀ a b c d : Value, (((w.alloc (.cells #[.slice (some ⟨w.heap.size + 1, 0, none⟩) 2 2, .slice (some ⟨w.heap.size + 1 + 1, 0, none⟩) 2 2] 24)).alloc (.cells #[a, b] 3)).alloc (.cells #[c, d] 3)).cell? ⟨w.heap.size, 0, none⟩ = some (.slice (some ⟨w.heap.size + 1, 0, none⟩) 2 2) := fun a b c d => keepa _ (keepa _ (cell_new0 _ _ _ _))
  have c1 : ∀ a b c d : Value, (((w.alloc (.cells #[.slice (some ⟨w.heap.size + 1, 0, none⟩) 2 2, .slice (some ⟨w.heap.size + 1 + 1, 0, none⟩) 2 2] 24)).alloc (.cells #[a, b] 3)).alloc (.cells #[c, d] 3)).cell? ⟨w.heap.size, 1, none⟩ = some (.slice (some ⟨w.heap.size + 1 + 1, 0, none⟩) 2 2) := fun a b c d => keepa _ (keepa _ (cell_new1 _ _ _ _))
  go_enter Try.func6, Try.ntmps6
  go_wp2
  refine bodyPost_ret (by simp [results, Try.results6, go_sem, c0, c1]; try rfl) rfl ?_
  refine ⟨_, rfl, ⟨_, _, rfl, own_lit (l := [0, 0]) (g := w.heap.size + 1) (by omega) ?_ (by decide), own_lit (l := [0, 2]) (g := w.heap.size + 1 + 1) (by omega) ?_ (by decide), ?_⟩, ?_⟩
  · have h1 := heap_alloc_new (w.alloc (.cells #[.slice (some ⟨w.heap.size + 1, 0, none⟩) 2 2, .slice (some ⟨w.heap.size + 1 + 1, 0, none⟩) 2 2] 24)) (.cells #[.int .i64 0, .int .i64 0] 3)
    have e : (w.alloc (.cells #[.slice (some ⟨w.heap.size + 1, 0, none⟩) 2 2, .slice (some ⟨w.heap.size + 1 + 1, 0, none⟩) 2 2] 24)).heap.size = w.heap.size + 1 := by simp
    rw [e] at h1
    exact ((alloc_below _ _).block _ (by simp)).trans h1
  · have h1 := heap_alloc_new ((w.alloc (.cells #[.slice (some ⟨w.heap.size + 1, 0, none⟩) 2 2, .slice (some ⟨w.heap.size + 1 + 1, 0, none⟩) 2 2] 24)).alloc (.cells #[.int .i64 0, .int .i64 0] 3)) (.cells #[.int .i64 0, .int .i64 2] 3)
    have e : ((w.alloc (.cells #[.slice (some ⟨w.heap.size + 1, 0, none⟩) 2 2, .slice (some ⟨w.heap.size + 1 + 1, 0, none⟩) 2 2] 24)).alloc (.cells #[.int .i64 0, .int .i64 0] 3)).heap.size = w.heap.size + 1 + 1 := by simp
    rw [e] at h1
    exact h1
  · intro k h1 h2
    cases h1
    simp [Value.ownBlock] at h2
  · exact belowa (belowa (alloc_below _ _) _) _
end Go.Proofs.Ytgjdaeaiheibbaa
