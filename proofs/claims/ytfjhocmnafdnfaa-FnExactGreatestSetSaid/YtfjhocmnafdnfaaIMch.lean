/- The program's normOfMatch, match, timesValues. The program's disturbance. -/
import Derived.Test.YtfjhocmnafdnfaaSp
import Derived.Test.YtfjhocmnafdnfaaINr
import Derived.Test.YtfjhocmnafdnfaaSg
import Derived.Test.YtfjhocmnafdnfaaDoor
import Derived.Test.YtfjhocmnafdnfaaRg
namespace Go.Proofs.Ytfjhocmnafdnfaa
set_option maxRecDepth 100000
section
open Go.RowKit

set_option maxRecDepth 100000 in
set_option maxHeartbeats 1000000 in
theorem normOfMatch_any {b1 b2 : Nat} {x y : Int} (h1 : FK .f64 b1 x) (h2 : FK .f64 b2 y) (hx : -32000000 ≤ x ∧ x ≤ 32000000) (hy : -32000000 ≤ y ∧ y ≤ 32000000) (w : World) :
    Calls Try.prog 201 #[.complex .f64 b1 b2] w (Pure w (.int .i64 (norm x y))) := by
  have s1 := sq32 hx
  have s2 := sq32 hy
  have s3 := norm32 hx hy
  obtain ⟨r1, e1, f1⟩ := FN_mul h1 h1 (by rw [top64]; omega)
  obtain ⟨r2, e2, f2⟩ := FN_mul h2 h2 (by rw [top64]; omega)
  obtain ⟨r3, e3, f3⟩ := FN_add f1 f2 (by rw [top64]; omega)
  have hm1 := fun t w => run_float_arith (P := Try.prog) w .mul t .f64 b1 b1 r1 e1
  have hm2 := fun t w => run_float_arith (P := Try.prog) w .mul t .f64 b2 b2 r2 e2
  have hm3 := fun t w => run_float_arith (P := Try.prog) w .add t .f64 r1 r2 r3 e3
  have hcv := fun w => run_convert_float_int (P := Try.prog) w 162 3 .f64 .i64 r3 (norm x y) rfl Try.underlying3 (FN_toInt f3 (by omega))
  obtain ⟨N, hN⟩ : ∃ N, N = norm x y := ⟨_, rfl⟩
  rw [← hN] at hcv ⊢
  clear hN f1 f2 f3 e1 e2 e3 s1 s2 s3 h1 h2 hx hy
  go_enter Try.func201, Try.ntmps201
  go_wp2_with fail
  go_returns
  exact ⟨rfl, rfl⟩

/-- A number with whole parts. -/
def RetM (w : World) (X Y : Int) (e : Ending) (w' : World) : Prop := ∃ re im, FK .f64 re X ∧ FK .f64 im Y ∧ e = .returned (.complex .f64 re im) ∧ Below w.heap.size w w'
/-- The numbers from a place of a block on. -/
def CxA (w : World) (g o m : Nat) (C : Nat → Nat × Nat) : Prop := ∀ i, i < m → w.cell? ⟨g, o + i, none⟩ = some (.complex .f32 (C i).1 (C i).2)
theorem CxA.below {w w' : World} {g o m : Nat} {C : Nat → Nat × Nat} (h : CxA w g o m C) (hb : Below w.heap.size w w') : CxA w' g o m C := fun i hi => keepc hb (h i hi)
theorem RowC.cxa {w : World} {B g n : Nat} {C : Nat → Nat × Nat} (h : RowC w B g n C) (o m : Nat) (hm : o + m ≤ n) : CxA w g o m (fun i => C (o + i)) := fun i hi => h.cell (o + i) (by omega)
theorem phC_at {s : List Int} (hs : isSeq s = true) (i : Nat) (hi : i < s.length) : (phC s)[i]? = some (.int .i64 (s.getD i 0)) := by
  have h32 := isSeq_len hs
  rw [phC_seq hs, phA_get _ _ i (by rw [padL_length h32]; omega)]
  congr 2
  unfold padL
  simp [List.getD, List.getElem?_append_left hi]
set_option maxRecDepth 100000 in
set_option maxHeartbeats 4000000 in
theorem match_any (g o c : Nat) (C : Nat → Nat × Nat) (X Y : Nat → Int) (s : List Int) (hs : isSeq s = true) (hz : CZ C X Y s.length)
    (hb : ∀ i, i < s.length → (-1000000 ≤ X i ∧ X i ≤ 1000000) ∧ (-1000000 ≤ Y i ∧ Y i ≤ 1000000)) (w : World) (hc : CxA w g o s.length C) :
    Calls Try.prog 202 #[.slice (some ⟨g, o, none⟩) s.length c, .agg (phC s)] w (RetM w (maX X Y s s.length) (maY X Y s s.length)) := by
  have h32 := isSeq_len hs
  have HLE := Lib.hid (fun k hk => ma_le X Y s s.length h32 hb k hk)
  have HSX := Lib.hid (fun k => show maX X Y s (k + 1) = maX X Y s k + nrX (X k) (Y k) (s.getD k 0).toNat from rfl)
  have HSY := Lib.hid (fun k => show maY X Y s (k + 1) = maY X Y s k + nrY (X k) (Y k) (s.getD k 0).toNat from rfl)
  have HTB := Lib.hid (fun i (hi : i < s.length) => by
    have h := allIn_getD (isSeq_all hs) i hi
    have := turnedBack_any (hz i hi).1 (hz i hi).2 (hb i hi).1 (hb i hi).2 (s.getD i 0).toNat (by omega)
    rwa [show (((s.getD i 0).toNat : Nat) : Int) = s.getD i 0 by omega] at this)
  have HNL := Lib.hid (fun i (hi : i < s.length) => nr_le (hb i hi).1 (hb i hi).2 (s.getD i 0).toNat)
  have HPC := Lib.hid (fun i hi => phC_at hs i hi)
  have h0X : maX X Y s 0 = 0 := rfl
  have h0Y : maY X Y s 0 = 0 := rfl
  have HZ0 := Lib.hid (And.intro h0X h0Y)
  obtain ⟨MX, hMX⟩ : ∃ M, M = maX X Y s := ⟨_, rfl⟩
  obtain ⟨MY, hMY⟩ : ∃ M, M = maY X Y s := ⟨_, rfl⟩
  rw [← hMX] at HLE HSX HZ0 ⊢
  rw [← hMY] at HLE HSY HZ0 ⊢
  obtain ⟨D, hD⟩ : ∃ D, D = phC s := ⟨_, rfl⟩
  rw [← hD] at HPC ⊢
  obtain ⟨n, hn⟩ : ∃ n, n = s.length := ⟨_, rfl⟩
  rw [← hn] at HLE HTB HNL HPC h32 hc ⊢
  have HC := Lib.hid hc
  have h32i : (n : Int) ≤ 32 := by omega
  clear h0X h0Y hMX hMY hD hn hz hb hc hs
  have B0 := Lib.hid (Below.refl w.heap.size w)
  go_enter Try.func202, Try.ntmps202
  go_wp2_with ((with_reducible refine at_op (Op.box 97 (.tmp 1)) ?_); refine wpList_box_row rfl 97 (.tmp 1) rfl D rfl ?_; intro w1 hr hbb hzz; have R1 := Lib.hid hr; have B1 := Lib.hid (joins B0.out hbb); have HC1 := Lib.hid (HC.out.below hbb); clear hr hbb hzz)
  go_loopw [10, 5] (fun i z wr => ∃ k : Nat, k ≤ n ∧ i = .int .i64 k ∧ (∃ re im, z = .complex .f64 re im ∧ FK .f64 re (MX k) ∧ FK .f64 im (MY k)) ∧ wr.heap[w.heap.size]? = some (.cells D 97 (0, 0)) ∧ CxA wr g o n C ∧ Below w.heap.size w wr) (fun i _ _ => n - (intOf i).toNat)
  case atStart => exact ⟨0, Nat.zero_le _, rfl, ⟨0, 0, rfl, by rw [HZ0.out.1]; exact FK_zero _, by rw [HZ0.out.2]; exact FK_zero _⟩, R1.out, HC1.out, B1.out⟩
  case round =>
    obtain ⟨k, hk, rfl, ⟨re, im, rfl, hre, him⟩, hrow, hcx, hbel⟩ := hrel
    have HR := Lib.hid hrow
    have HCX := Lib.hid hcx
    have HB := Lib.hid hbel
    have HRI := Lib.hid (And.intro hre him)
    clear hrow hcx hbel hre him
    by_cases hlt : k < n
    · have h0 : (0 : Int) ≤ (k : Int) := by omega
      have h1 : (k : Int) < (n : Int) := by omega
      have h31 : k < 32 := by omega
      have c1 := HCX.out k hlt
      have c2 := rowC HR.out (HPC.out k hlt)
      obtain ⟨q1, q2, f1, f2, hcall⟩ := HTB.out k hlt
      have hn := HNL.out k hlt
      obtain ⟨p1, p2, e1, y1, y2⟩ := FC_conv64 f1 f2 hn.1 hn.2
      have hl := HLE.out k hk
      have hl2 := HLE.out (k + 1) (by omega)
      have hsx := HSX.out k
      have hsy := HSY.out k
      obtain ⟨s1, s2, e4, y3, y4⟩ := FC_add64 HRI.out.1 HRI.out.2 y1 y2 (by omega) (by omega)
      rw [← hsx] at y3
      rw [← hsy] at y4
      have HY := Lib.hid (And.intro y3 y4)
      have hcv := fun w => run_convert_complex (P := Try.prog) w 102 157 .f32 .f64 _ _ _ _ rfl Try.underlying157 e1
      have had := fun w t => run_complex_sum (P := Try.prog) w .add (Or.inl rfl) t .f64 _ _ _ _ _ _ e4
      obtain ⟨x1, hx1⟩ : ∃ r, r = (C k).1 := ⟨_, rfl⟩
      obtain ⟨x2, hx2⟩ : ∃ r, r = (C k).2 := ⟨_, rfl⟩
      obtain ⟨a, ha⟩ : ∃ r, r = s.getD k 0 := ⟨_, rfl⟩
      rw [← hx1, ← hx2] at c1 hcall
      rw [← ha] at c2 hcall
      have HTC := Lib.hid hcall
      clear hx1 hx2 ha hcall f1 f2 hn e1 y1 y2 hl hl2 hsx hsy e4 y3 y4
      go_wp2_with fail
      refine (HTC.out _).mono ?_
      rintro e w2 ⟨rfl, hb⟩
      have R2 := Lib.hid (rowB HR.out hb)
      have C2 := Lib.hid (HCX.out.below hb)
      have B2 := Lib.hid (joins HB.out hb)
      clear hb
      go_wp2_with fail
      go_roundw
      case rel => exact ⟨k + 1, by omega, by go_num, ⟨_, _, rfl, HY.out.1, HY.out.2⟩, R2.out, C2.out, B2.out⟩
      case measure => simp [intOf]; omega
    · obtain rfl : k = n := by omega
      go_wp2_with fail
      go_returns
      exact ⟨re, im, HRI.out.1, HRI.out.2, rfl, HB.out⟩

/-! ### a number times the values of a code -/
theorem infoC8 : (Try.prog.info? 102).map (fun i => (i.zero, i.size, i.bytes)) = some (some (.complex .f32 0 0), 1, 8) := by kernel_rfl
/-- The words of them. -/
def tvC (b1 b2 : Nat) (s : List Int) (i : Nat) : Nat × Nat := mulC b1 b2 (f32of (vx (s.getD i 0))) (f32of (vy (s.getD i 0)))
def upto (k : Nat) (D : Nat → Nat × Nat) : Nat → Nat × Nat := fun i => if i < k then D i else (0, 0)
theorem upto_set (k : Nat) (D : Nat → Nat × Nat) : setC (upto k D) k (D k) = upto (k + 1) D := by
  funext i
  unfold setC upto
  by_cases e : i = k
  · subst e; simp
  · rw [if_neg e]
    by_cases h : i < k
    · rw [if_pos h, if_pos (by omega)]
    · rw [if_neg h, if_neg (by omega)]
theorem upto_zero (D : Nat → Nat × Nat) : upto 0 D = fun _ => (0, 0) := by
  funext i; unfold upto; rw [if_neg (Nat.not_lt_zero _)]
theorem upto_all (n : Nat) (D : Nat → Nat × Nat) : cxL n (upto n D) = cxL n D := cxL_ext (fun i h => by unfold upto; rw [if_pos h])
/-- A signal of the call's own. -/
def MakesSig (w : World) (n : Nat) (C : Nat → Nat × Nat) (e : Ending) (w' : World) : Prop := ∃ g, e = .returned (.slice (some ⟨g, 0, none⟩) n n) ∧ RowC w' w.heap.size g n C ∧ Below w.heap.size w w'
theorem tvC_ok {b1 b2 : Nat} {x y : Int} (h1 : FK .f32 b1 x) (h2 : FK .f32 b2 y) (hx : -1000000 ≤ x ∧ x ≤ 1000000) (hy : -1000000 ≤ y ∧ y ≤ 1000000) {s : List Int} (hs : isSeq s = true) : CZ (tvC b1 b2 s) (tvX x y s) (tvY x y s) s.length := fun i hi =>
  (mulC_turn h1 h2 hx hy (s.getD i 0) (allIn_getD (isSeq_all hs) i hi)).2
set_option maxRecDepth 100000 in
set_option maxHeartbeats 4000000 in
theorem timesValues_any {b1 b2 : Nat} {x y : Int} (h1 : FK .f32 b1 x) (h2 : FK .f32 b2 y) (hx : -1000000 ≤ x ∧ x ≤ 1000000) (hy : -1000000 ≤ y ∧ y ≤ 1000000) (s : List Int) (hs : isSeq s = true) (w : World) :
    Calls Try.prog 203 #[.complex .f32 b1 b2, .agg (phC s)] w (MakesSig w s.length (tvC b1 b2 s)) := by
  obtain ⟨i0, hi, hz0, hz1, hz2⟩ := info_parts infoC8
  have h32 := isSeq_len hs
  have HPC := Lib.hid (fun i hi => phC_at hs i hi)
  have HLN := Lib.hid (show (phC s)[32]? = some (.int .i64 s.length) from by
    have := phC_len s
    rwa [show sqz s = s by unfold sqz; rw [hs]; rfl] at this)
  have HMC := Lib.hid (fun i (hi : i < s.length) => (mulC_turn h1 h2 hx hy (s.getD i 0) (allIn_getD (isSeq_all hs) i hi)).1)
  have HK := Lib.hid (fun i (hi : i < s.length) => allIn_getD (isSeq_all hs) i hi)
  obtain ⟨D, hD⟩ : ∃ D, D = phC s := ⟨_, rfl⟩
  rw [← hD] at HPC HLN ⊢
  obtain ⟨T, hT⟩ : ∃ T, T = tvC b1 b2 s := ⟨_, rfl⟩
  have HT := Lib.hid (fun i => show T i = mulC b1 b2 (f32of (vx (s.getD i 0))) (f32of (vy (s.getD i 0))) by rw [hT]; rfl)
  rw [← hT]
  obtain ⟨n, hn⟩ : ∃ n, n = s.length := ⟨_, rfl⟩
  rw [← hn] at HPC HLN HMC HK h32 ⊢
  have h32i : (n : Int) ≤ 32 := by omega
  clear hD hT hn h1 h2 hx hy hs
  have B0 := Lib.hid (Below.refl w.heap.size w)
  go_enter Try.func203, Try.ntmps203
  go_wp2_with (first
    | ((with_reducible refine at_op (Op.box 97 (.tmp 1)) ?_); refine wpList_box_row rfl 97 (.tmp 1) rfl D rfl ?_; intro w1 hr hbb hzz; have R1 := Lib.hid hr; have B1 := Lib.hid (joins B0.out hbb); have S1 := Lib.hid hzz; have c32 := rowC hr HLN.out; clear hr hbb hzz)
    | (at_make; refine wpList_make_full _ rfl _ _ 160 rfl w1.heap.size 102 i0 (.complex .f32 0 0) 1 Try.underlying160 hi hz0 hz1 _ _ _ _ n rfl rfl rfl rfl ?b2 ?b3 (Nat.le_refl _) ?_))
  case b2 => rw [hz2]; omega
  case b3 => unfold maxLen; omega
  intro w2 hown0 hgrow0
  have hb2 : Below w1.heap.size w1 w2 := (Below.refl _ _).grown hgrow0 (Nat.le_refl _) (fun k h => by cases h)
  have hrow0 : RowC w2 w.heap.size w1.heap.size n (upto 0 T) := by
    unfold RowC
    rw [upto_zero, ← cx_zeros]
    exact rowMono (by simpa using hown0) B1.out.size
  have HR2 := Lib.hid hrow0
  have R2 := Lib.hid (rowB R1.out hb2)
  have B2 := Lib.hid (joins B1.out hb2)
  have hs1 := B1.out.size
  have hgn : w.heap.size ≠ w1.heap.size := by have := S1.out; omega
  obtain ⟨g, hg⟩ : ∃ g, g = w1.heap.size := ⟨_, rfl⟩
  rw [← hg] at HR2 hs1 hgn ⊢
  have HGN := Lib.hid hgn
  clear hown0 hgrow0 hb2 hrow0 c32 hg hgn
  go_wp2_with fail
  go_loopw [12] (fun i wr => ∃ k : Nat, k ≤ n ∧ i = .int .i64 k ∧ RowC wr w.heap.size g n (upto k T) ∧ wr.heap[w.heap.size]? = some (.cells D 97 (0, 0)) ∧ Below w.heap.size w wr) (fun i _ => n - (intOf i).toNat)
  case atStart => exact ⟨0, Nat.zero_le _, rfl, HR2.out, R2.out, B2.out⟩
  case round =>
    obtain ⟨k, hk, rfl, hrow, hph, hbel⟩ := hrel
    have HR := Lib.hid hrow
    have HP := Lib.hid hph
    have HB := Lib.hid hbel
    clear hrow hph hbel
    by_cases hlt : k < n
    · have h0 : (0 : Int) ≤ (k : Int) := by omega
      have h1 : (k : Int) < (n : Int) := by omega
      have h31 : k < 32 := by omega
      have c2 := rowC HP.out (HPC.out k hlt)
      have hkk := HK.out k hlt
      have hmc := HMC.out k hlt
      have ht := HT.out k
      rw [← ht] at hmc
      obtain ⟨a, ha⟩ : ∃ r, r = s.getD k 0 := ⟨_, rfl⟩
      rw [← ha] at c2 hmc hkk
      have HV := Lib.hid (valueOf_any a hkk.1 hkk.2)
      obtain ⟨p1, hp1⟩ : ∃ r, r = f32of (vx a) := ⟨_, rfl⟩
      obtain ⟨p2, hp2⟩ : ∃ r, r = f32of (vy a) := ⟨_, rfl⟩
      rw [← hp1, ← hp2] at HV hmc
      obtain ⟨t1, ht1⟩ : ∃ r, r = (T k).1 := ⟨_, rfl⟩
      obtain ⟨t2, ht2⟩ : ∃ r, r = (T k).2 := ⟨_, rfl⟩
      rw [← ht1, ← ht2] at hmc
      have HTK := Lib.hid (show T k = (t1, t2) by rw [ht1, ht2])
      have hmul := fun w t => run_complex_mul32 (P := Try.prog) w t _ _ _ _ _ _ hmc
      clear ht ha hp1 hp2 ht1 ht2 hmc hkk
      go_wp2_with fail
      refine (HV.out _).mono ?_
      rintro e w3 ⟨rfl, hb⟩
      have hR3 := HR.out.below hb
      have HR3 := Lib.hid hR3
      have HP3 := Lib.hid (rowB HP.out hb)
      have HB3 := Lib.hid (joins HB.out hb)
      have c3 := hR3.cell k hlt
      rw [show upto k T k = (0, 0) from if_neg (Nat.lt_irrefl _)] at c3
      have f1 := World.ownsRow.frozenAt hR3 k
      have hst := @store_complex Try.prog
      clear hb hR3 c2
      go_wp2_with fail
      go_roundw
      case rel =>
        have hs := HR3.out.set k (T k)
        rw [upto_set] at hs
        rw [HTK.out] at hs
        exact ⟨k + 1, by omega, by go_num, hs, (heap_setCell_other _ _ _ _ (by exact HGN.out)).trans HP3.out, belows HB3.out hs1 _⟩
      case measure => simp [intOf]; omega
    · obtain rfl : k = n := by omega
      go_wp2_with fail
      go_returns
      refine ⟨g, rfl, ?_, HB.out⟩
      have := HR.out
      unfold RowC at this
      rw [upto_all] at this
      exact this
end
section
open Go.RowKit

theorem infoPhC8 (l : List Int) : (Try.prog.info? 97).map (·.size) = some (phC l).size := by rw [phC_size]; exact infoPh
theorem rowG8 {w w' : World} {g : Nat} {x : Obj} {row : Option Nat} (h : w.heap[g]? = some x) (hg : w.grownBy w' row) (hne : row ≠ some g) : w'.heap[g]? = some x := (hg.block g (row_lt h) (fun e => hne e.symm)).trans h
theorem one32 : FK .f32 1065353216 1 := by
  have := FK_unit 0 (by decide) (by decide)
  exact this.1
theorem zero32 : FK .f32 0 0 := FK_zero _
theorem dt_le {a b : List Int} (ha : isSeq a = true) : (-32000000 ≤ dtX a b ∧ dtX a b ≤ 32000000) ∧ (-32000000 ≤ dtY a b ∧ dtY a b ≤ 32000000) :=
  ma_le _ _ b a.length (isSeq_len ha) (fun i hi => tv_le (by decide) (by decide) (isSeq_all ha) i hi) a.length (Nat.le_refl _)
set_option maxRecDepth 100000 in
set_option maxHeartbeats 4000000 in
theorem disturbance_any (a b : List Int) (ha : isSeq a = true) (hb : isSeq b = true) (hab : a.length = b.length) (w : World) : Calls Try.prog 198 #[.agg (phC a), .agg (phC b)] w (Ret w (.int .i64 (dtN a b))) := by
  have HTV := Lib.hid (fun w => timesValues_any one32 zero32 (by decide) (by decide) a ha w)
  have hcz := tvC_ok one32 zero32 (by decide) (by decide) ha
  have HMA := Lib.hid (fun g (w : World) {B : Nat} (h : RowC w B g a.length (tvC 1065353216 0 a)) => by
    have hc := h.cxa 0 b.length (by omega)
    simp only [Nat.zero_add] at hc
    exact match_any g 0 a.length (tvC 1065353216 0 a) (tvX 1 0 a) (tvY 1 0 a) b hb (by rw [← hab]; exact hcz) (fun i hi => tv_le (B := 1000000) (by decide) (by decide) (isSeq_all ha) i (by omega)) w hc)
  rw [← hab] at HMA
  have HLE := Lib.hid (dt_le (a := a) (b := b) ha)
  have hd : dtN a b = norm (maX (tvX 1 0 a) (tvY 1 0 a) b a.length) (maY (tvX 1 0 a) (tvY 1 0 a) b a.length) := rfl
  have hdx : dtX a b = maX (tvX 1 0 a) (tvY 1 0 a) b a.length := rfl
  have hdy : dtY a b = maY (tvX 1 0 a) (tvY 1 0 a) b a.length := rfl
  rw [hdx, hdy] at HLE
  rw [hd]
  have IA := Lib.hid (infoPhC8 a)
  have IB := Lib.hid (infoPhC8 b)
  obtain ⟨X, hX⟩ : ∃ X, X = maX (tvX 1 0 a) (tvY 1 0 a) b a.length := ⟨_, rfl⟩
  obtain ⟨Y, hY⟩ : ∃ X, X = maY (tvX 1 0 a) (tvY 1 0 a) b a.length := ⟨_, rfl⟩
  rw [← hX, ← hY] at HMA HLE ⊢
  obtain ⟨CA, hCA⟩ : ∃ C, C = phC a := ⟨_, rfl⟩
  obtain ⟨CB, hCB⟩ : ∃ C, C = phC b := ⟨_, rfl⟩
  rw [← hCA] at HTV IA ⊢
  rw [← hCB] at HMA IB ⊢
  obtain ⟨T, hT⟩ : ∃ C, C = tvC 1065353216 0 a := ⟨_, rfl⟩
  rw [← hT] at HTV HMA
  obtain ⟨n, hn⟩ : ∃ n, n = a.length := ⟨_, rfl⟩
  rw [← hn] at HTV HMA
  clear hX hY hCA hCB hT hn hcz hd hdx hdy ha hb hab
  have B0 := Lib.hid (Below.refl w.heap.size w)
  go_enter Try.func198, Try.ntmps198
  go_wp2_with (first
    | ((with_reducible refine at_op (Op.box 97 (.tmp 0)) ?_); refine wpList_box_row rfl 97 (.tmp 0) rfl CA rfl ?_; intro w1 hr hbb hzz; have RA1 := Lib.hid hr; have B1 := Lib.hid (joins B0.out hbb); clear hr hbb hzz)
    | ((with_reducible refine at_op (Op.box 97 (.tmp 1)) ?_); refine wpList_box_row rfl 97 (.tmp 1) rfl CB rfl ?_; intro w2 hr hbb hzz; have RB2 := Lib.hid hr; have RA2 := Lib.hid (rowB RA1.out hbb); have B2 := Lib.hid (joins B1.out hbb); clear hr hbb hzz))
  refine wp_region_held_drew (S := (fun w' => World.grownBy w2 w' none)) (by kernel_rfl) (grownDrew (World.grownBy.refl _ _)) ?_
  obtain ⟨d1, hdw⟩ : ∃ w', w' = w2.drew := ⟨_, rfl⟩
  rw [← hdw]
  have hb : Below w2.heap.size w2 d1 := by rw [hdw]; exact belowN (Below.refl _ _) 1
  have F1_B := Lib.hid (joins B2.out hb)
  clear hdw hb
  intro hHeld
  refine' wpAnyH_take (i := 0) (v := _) rfl (by kernel_rfl) (by kernel_rfl) (by kernel_rfl) (fun _ _ _ h => h) (yieldsPart (by rfl) 97 (.tmp 2) rfl (w.heap.size) 0 rfl CA CA 97 (0, 0) _ (fun w h => rowG8 RA2.out h (by simp)) (Part.self _) Try.underlying97 rfl IA.out) (by assumption) ?rest1
  (try simp only [Act.put, List.getElem_toArray, List.getElem_cons_zero, List.setIfInBounds_toArray, List.set_cons_zero, List.set_cons_succ])
  refine' wpAnyH_take (i := 2) (v := _) rfl (by kernel_rfl) (by kernel_rfl) (by kernel_rfl) (fun _ _ _ h => h) (yieldsPart (by rfl) 97 (.tmp 3) rfl (w1.heap.size) 0 rfl CB CB 97 (0, 0) _ (fun w h => rowG8 RB2.out h (by simp)) (Part.self _) Try.underlying97 rfl IB.out) (by assumption) ?rest2
  (try simp only [Act.put, List.getElem_toArray, List.getElem_cons_zero, List.getElem_cons_succ, List.setIfInBounds_toArray, List.set_cons_zero, List.set_cons_succ])
  refine wpAnyH_ready (rs := [1]) (by kernel_rfl) (by simp) ?_
  refine AllReadyH.cons rfl (fun K hK => ?_) AllReadyH.nil
  go_simp
  refine (HTV.out _).mono ?_
  rintro e d2 ⟨g, rfl, ho, hb⟩
  have F2_B := Lib.hid (joins F1_B.out hb)
  have F2_MS := Lib.hid ho
  have hHeld := grownB hHeld hb
  clear ho hb
  refine hK.out _ _ hHeld (fun hHeld => ?_)
  clear hK K
  (try simp only [Act.put, List.getElem_toArray, List.getElem_cons_zero, List.getElem_cons_succ, List.setIfInBounds_toArray, List.set_cons_zero, List.set_cons_succ])
  refine wpAnyH_ready (rs := [3]) (by kernel_rfl) (by simp) ?_
  refine AllReadyH.cons rfl (fun K hK => ?_) AllReadyH.nil
  go_simp
  refine (HMA.out g _ F2_MS.out).mono ?_
  rintro e d3 ⟨re, im, f1, f2, rfl, hb⟩
  have F3_B := Lib.hid (joins F2_B.out hb)
  have F3_MS := Lib.hid (F2_MS.out.below hb)
  have HNM := Lib.hid (normOfMatch_any f1 f2 HLE.out.1 HLE.out.2)
  clear f1 f2
  have hHeld := grownB hHeld hb
  clear hb
  refine hK.out _ _ hHeld (fun hHeld => ?_)
  clear hK K
  (try simp only [Act.put, List.getElem_toArray, List.getElem_cons_zero, List.getElem_cons_succ, List.setIfInBounds_toArray, List.set_cons_zero, List.set_cons_succ])
  refine wpAnyH_ready (rs := [4]) (by kernel_rfl) (by simp) ?_
  refine AllReadyH.cons rfl (fun K hK => ?_) AllReadyH.nil
  go_simp
  refine (HNM.out _).mono ?_
  rintro e w' ⟨rfl, rfl⟩
  refine hK.out _ _ hHeld (fun hHeld => ?_)
  clear hK K
  (try simp only [Act.put, List.getElem_toArray, List.getElem_cons_zero, List.getElem_cons_succ, List.setIfInBounds_toArray, List.set_cons_zero, List.set_cons_succ])
  refine' wpAnyH_take (i := 5) (v := _) rfl (by kernel_rfl) (by kernel_rfl) (by kernel_rfl) (fun _ _ _ h => h) (Or.inl ⟨by rfl, ?hy3⟩) (by assumption) ?rest3
  case hy3 =>
    intro w h
    (try clear h)
    go_simp
    (try with_reducible rfl)
  (try simp only [Act.put, List.getElem_toArray, List.getElem_cons_zero, List.getElem_cons_succ, List.setIfInBounds_toArray, List.set_cons_zero, List.set_cons_succ])
  refine wpAnyH_done (by kernel_rfl) ?_ _
  go_wp2_with fail
  go_returns
  exact ⟨rfl, F3_B.out⟩
end
end Go.Proofs.Ytfjhocmnafdnfaa
