/- The program's isFit: which ways have what they require. -/
import Derived.Test.YtcpeikkkegpdhabIGo
namespace Go.Proofs.Ytcpeikkkegpdhab
set_option maxRecDepth 100000
open Go.RowKit

set_option maxHeartbeats 400000 in
theorem isPhase_any (k : Int) (w : World) : Calls Try.prog 20 #[.int .i64 k] w (Pure w (.bool (inB k 0 3))) := by
  go_enter Try.func20, Try.ntmps20
  go_wp2
  all_goals
    go_ret
    exact ⟨ret_bool (by simp only [inB]; simp; omega), rfl⟩
/-- A pair and a number. -/
def prK (p q : List Int) (k : Int) : Array Value := prC p q ++ #[.int .i64 k]
theorem prK_size (p q : List Int) (k : Int) : (prK p q k).size = 67 := by simp [prK, prC_size]
theorem prK_one (p q : List Int) (k : Int) : (prK p q k).all (·.oneCell') = true := one_append (prC_one p q) (by simp [Value.oneCell'])
theorem prK_pair (p q : List Int) (k : Int) : Part (prK p q k) 0 (prC p q) := (Part.self _).left
theorem prK_fst (p q : List Int) (k : Int) : Part (prK p q k) 0 (phC p) := (prC_fst p q).left
theorem prK_snd (p q : List Int) (k : Int) : Part (prK p q k) 33 (phC q) := (prC_snd p q).left
theorem prK_num (p q : List Int) (k : Int) : (prK p q k)[66]? = some (.int .i64 k) := by
  unfold prK
  rw [Array.getElem?_append_right (by rw [prC_size]; omega), prC_size]
  rfl

section
variable {P : Program}
theorem run_assert_yes (w : World) (v : Value) (X A : TypeId) (fs : Array Field) (hu : P.underlying A = some (.struct fs)) : (Instr.typeAssert (.iface A v) X A true).run P w = .ok (.tuple #[v, .bool true]) w := by
  unfold Instr.typeAssert
  rw [Sem.run_bind, run_underlying hu w]
  simp
theorem run_assert_no (w : World) (v z : Value) (T X A : TypeId) (fs : Array Field) (hu : P.underlying A = some (.struct fs)) (hne : T ≠ A) (hz : ∀ w, (zeroValue A).run P w = .ok z w) : (Instr.typeAssert (.iface T v) X A true).run P w = .ok (.tuple #[z, .bool false]) w := by
  unfold Instr.typeAssert
  rw [Sem.run_bind, run_underlying hu w]
  simp [hne, hz]
end
theorem run_zero_is {P : Program} {t : TypeId} {z : Value} (h : (P.info? t).map (·.zero) = some (some z)) (w : World) : (zeroValue t).run P w = .ok z w := by
  cases hi : P.info? t with
  | none => rw [hi] at h; cases h
  | some it =>
    rw [hi] at h
    simp only [Option.map_some, Option.some.injEq] at h
    exact run_zero_of hi h w
theorem zero_agg {P : Program} {t : TypeId} (h : (P.info? t).map (fun i => match i.zero with | some (.agg _) => true | _ => false) = some true) : ∃ z : Array Value, ∀ w, (zeroValue t).run P w = .ok (.agg z) w := by
  cases hi : P.info? t with
  | none => rw [hi] at h; cases h
  | some it =>
    rw [hi] at h
    simp only [Option.map_some, Option.some.injEq] at h
    cases hz : it.zero with
    | none => rw [hz] at h; cases h
    | some z =>
      rw [hz] at h
      cases z <;> first | exact ⟨_, fun w => run_zero_of hi hz w⟩ | cases h
theorem zero_joining : ∃ z : Array Value, ∀ w, (zeroValue 50).run Try.prog w = .ok (.agg z) w := zero_agg (by kernel_rfl)
theorem zero_weaving : ∃ z : Array Value, ∀ w, (zeroValue 54).run Try.prog w = .ok (.agg z) w := zero_agg (by kernel_rfl)
theorem zero_mating : ∃ z : Array Value, ∀ w, (zeroValue 55).run Try.prog w = .ok (.agg z) w := zero_agg (by kernel_rfl)
theorem zero_climbing : ∃ z : Array Value, ∀ w, (zeroValue 57).run Try.prog w = .ok (.agg z) w := zero_agg (by kernel_rfl)
theorem zero_joiningMates : ∃ z : Array Value, ∀ w, (zeroValue 59).run Try.prog w = .ok (.agg z) w := zero_agg (by kernel_rfl)
theorem zero_standard : ∃ z : Array Value, ∀ w, (zeroValue 35).run Try.prog w = .ok (.agg z) w := zero_agg (by kernel_rfl)

theorem infoN_joining : (Try.prog.info? 50).map (·.size) = some 67 := by kernel_rfl
theorem zeroN_joining (w : World) : (zeroValue 50).run Try.prog w = .ok (.agg (prK [] [] 0)) w := run_zero_is (by kernel_rfl) w
set_option maxHeartbeats 4000000 in
theorem isFit_joining (p q : List Int) (k : Int) (hp : isSeq p = true) (w : World) :
    Calls Try.prog 17 #[.iface 50 (.agg (prK p q k))] w (Ret w (.bool (decide (1 ≤ p.length) && inB k 0 3))) := by
  have HIP := prIsPair_any p q hp
  have HPH := Lib.hid (isPhase_any k)
  have SK := Lib.hid (prK_size p q k)
  have OK := Lib.hid (prK_one p q k)
  have PK := Lib.hid (prK_pair p q k)
  have NK := Lib.hid (prK_num p q k)
  have IC := Lib.hid (infoPrC p q)
  have SZ := Lib.hid (prK_size [] [] 0)
  have ZZ := Lib.hid zeroN_joining
  obtain ⟨Z, hZ⟩ : ∃ Z, Z = prK [] [] 0 := ⟨_, rfl⟩
  rw [← hZ] at SZ ZZ
  obtain ⟨J, hJ⟩ : ∃ Z, Z = prK p q k := ⟨_, rfl⟩
  rw [← hJ] at SK OK PK NK ⊢
  obtain ⟨C, hC⟩ : ∃ Z, Z = prC p q := ⟨_, rfl⟩
  rw [← hC] at PK IC HIP
  obtain ⟨b1, hb1⟩ : ∃ b, b = decide (1 ≤ p.length) := ⟨_, rfl⟩
  rw [← hb1] at HIP ⊢
  have HIP' := Lib.hid HIP
  clear HIP hZ hJ hC hb1 hp
  have as_joining := fun w => run_assert_yes (P := Try.prog) w (.agg J) 39 50 _ Try.underlying50
  cases b1 with
  | true =>
    have B0 := Lib.hid (Below.refl w.heap.size w)
    go_enter Try.func17, Try.ntmps17
    go_wp2_with (first
      | ((with_reducible refine at_op (d := some 3) (Op.alloc 50) ?_); refine wpList_alloc_row rfl 50 rfl Z (fun w => ZZ.out w) ?_; intro w1 hr hb hz; have R1_j := Lib.hid hr; have B1 := Lib.hid (joins B0.out hb); have L1_j := Lib.hid (show w.heap.size ≤ w.heap.size from B0.out.size); clear hr hb hz)
      | ((with_reducible refine at_op (Op.store 50 (.tmp 3) (.tmp 12)) ?_); refine wpList_put_row rfl 50 (.tmp 3) (.tmp 12) rfl (w.heap.size) J rfl rfl 50 Z R1_j.out 67 infoN_joining SK.out SZ.out OK.out w.heap.size w B1.out L1_j.out ?_; intro w2 hr hs hb; have R2_j := Lib.hid hr; have B2 := Lib.hid hb; clear hr hs hb)
      | ((with_reducible refine at_op (Op.load 45 (.tmp 13)) ?_); refine wpList_load_part rfl 45 (.tmp 13) rfl (w.heap.size) 0 rfl J C 50 (0, 0) _ R2_j.out PK.out Try.underlying45 rfl IC.out ?_))
    refine (HIP'.out _).mono ?_
    rintro e w3 ⟨rfl, hb⟩
    have R3_j := Lib.hid (rowB R2_j.out hb)
    have B3 := Lib.hid (joins B2.out hb)
    clear hb
    have c1 := rowC R3_j.out NK.out
    go_wp2_with fail
    refine (HPH.out _).mono ?_
    rintro e w' ⟨rfl, rfl⟩
    go_wp2_with fail
    go_returns
    exact ⟨rfl, B3.out⟩
  | false =>
    have B0 := Lib.hid (Below.refl w.heap.size w)
    go_enter Try.func17, Try.ntmps17
    go_wp2_with (first
      | ((with_reducible refine at_op (d := some 3) (Op.alloc 50) ?_); refine wpList_alloc_row rfl 50 rfl Z (fun w => ZZ.out w) ?_; intro w1 hr hb hz; have R1_j := Lib.hid hr; have B1 := Lib.hid (joins B0.out hb); have L1_j := Lib.hid (show w.heap.size ≤ w.heap.size from B0.out.size); clear hr hb hz)
      | ((with_reducible refine at_op (Op.store 50 (.tmp 3) (.tmp 12)) ?_); refine wpList_put_row rfl 50 (.tmp 3) (.tmp 12) rfl (w.heap.size) J rfl rfl 50 Z R1_j.out 67 infoN_joining SK.out SZ.out OK.out w.heap.size w B1.out L1_j.out ?_; intro w2 hr hs hb; have R2_j := Lib.hid hr; have B2 := Lib.hid hb; clear hr hs hb)
      | ((with_reducible refine at_op (Op.load 45 (.tmp 13)) ?_); refine wpList_load_part rfl 45 (.tmp 13) rfl (w.heap.size) 0 rfl J C 50 (0, 0) _ R2_j.out PK.out Try.underlying45 rfl IC.out ?_))
    refine (HIP'.out _).mono ?_
    rintro e w3 ⟨rfl, hb⟩
    have R3_j := Lib.hid (rowB R2_j.out hb)
    have B3 := Lib.hid (joins B2.out hb)
    clear hb
    go_wp2_with fail
    go_returns
    exact ⟨rfl, B3.out⟩

theorem infoN_climbing : (Try.prog.info? 57).map (·.size) = some 67 := by kernel_rfl
theorem zeroN_climbing (w : World) : (zeroValue 57).run Try.prog w = .ok (.agg (prK [] [] 0)) w := run_zero_is (by kernel_rfl) w
set_option maxHeartbeats 4000000 in
theorem isFit_climbing (p q : List Int) (k : Int) (hp : isSeq p = true) (w : World) :
    Calls Try.prog 17 #[.iface 57 (.agg (prK p q k))] w (Ret w (.bool (decide (1 ≤ p.length) && inB k 0 3))) := by
  have HIP := prIsPair_any p q hp
  have HPH := Lib.hid (isPhase_any k)
  have SK := Lib.hid (prK_size p q k)
  have OK := Lib.hid (prK_one p q k)
  have PK := Lib.hid (prK_pair p q k)
  have NK := Lib.hid (prK_num p q k)
  have IC := Lib.hid (infoPrC p q)
  have SZ := Lib.hid (prK_size [] [] 0)
  have ZZ := Lib.hid zeroN_climbing
  obtain ⟨Z, hZ⟩ : ∃ Z, Z = prK [] [] 0 := ⟨_, rfl⟩
  rw [← hZ] at SZ ZZ
  obtain ⟨J, hJ⟩ : ∃ Z, Z = prK p q k := ⟨_, rfl⟩
  rw [← hJ] at SK OK PK NK ⊢
  obtain ⟨C, hC⟩ : ∃ Z, Z = prC p q := ⟨_, rfl⟩
  rw [← hC] at PK IC HIP
  obtain ⟨b1, hb1⟩ : ∃ b, b = decide (1 ≤ p.length) := ⟨_, rfl⟩
  rw [← hb1] at HIP ⊢
  have HIP' := Lib.hid HIP
  clear HIP hZ hJ hC hb1 hp
  obtain ⟨z_joining, hz_joining⟩ := zero_joining
  have as_joining := fun w => run_assert_no (P := Try.prog) w (.agg J) (.agg z_joining) 57 39 50 _ Try.underlying50 (by decide) hz_joining
  clear hz_joining
  obtain ⟨z_weaving, hz_weaving⟩ := zero_weaving
  have as_weaving := fun w => run_assert_no (P := Try.prog) w (.agg J) (.agg z_weaving) 57 39 54 _ Try.underlying54 (by decide) hz_weaving
  clear hz_weaving
  obtain ⟨z_mating, hz_mating⟩ := zero_mating
  have as_mating := fun w => run_assert_no (P := Try.prog) w (.agg J) (.agg z_mating) 57 39 55 _ Try.underlying55 (by decide) hz_mating
  clear hz_mating
  have as_climbing := fun w => run_assert_yes (P := Try.prog) w (.agg J) 39 57 _ Try.underlying57
  cases b1 with
  | true =>
    have B0 := Lib.hid (Below.refl w.heap.size w)
    go_enter Try.func17, Try.ntmps17
    go_wp2_with (first
      | ((with_reducible refine at_op (d := some 6) (Op.alloc 57) ?_); refine wpList_alloc_row rfl 57 rfl Z (fun w => ZZ.out w) ?_; intro w1 hr hb hz; have R1_j := Lib.hid hr; have B1 := Lib.hid (joins B0.out hb); have L1_j := Lib.hid (show w.heap.size ≤ w.heap.size from B0.out.size); clear hr hb hz)
      | ((with_reducible refine at_op (Op.store 57 (.tmp 6) (.tmp 35)) ?_); refine wpList_put_row rfl 57 (.tmp 6) (.tmp 35) rfl (w.heap.size) J rfl rfl 57 Z R1_j.out 67 infoN_climbing SK.out SZ.out OK.out w.heap.size w B1.out L1_j.out ?_; intro w2 hr hs hb; have R2_j := Lib.hid hr; have B2 := Lib.hid hb; clear hr hs hb)
      | ((with_reducible refine at_op (Op.load 45 (.tmp 36)) ?_); refine wpList_load_part rfl 45 (.tmp 36) rfl (w.heap.size) 0 rfl J C 57 (0, 0) _ R2_j.out PK.out Try.underlying45 rfl IC.out ?_))
    refine (HIP'.out _).mono ?_
    rintro e w3 ⟨rfl, hb⟩
    have R3_j := Lib.hid (rowB R2_j.out hb)
    have B3 := Lib.hid (joins B2.out hb)
    clear hb
    have c1 := rowC R3_j.out NK.out
    go_wp2_with fail
    refine (HPH.out _).mono ?_
    rintro e w' ⟨rfl, rfl⟩
    go_wp2_with fail
    go_returns
    exact ⟨rfl, B3.out⟩
  | false =>
    have B0 := Lib.hid (Below.refl w.heap.size w)
    go_enter Try.func17, Try.ntmps17
    go_wp2_with (first
      | ((with_reducible refine at_op (d := some 6) (Op.alloc 57) ?_); refine wpList_alloc_row rfl 57 rfl Z (fun w => ZZ.out w) ?_; intro w1 hr hb hz; have R1_j := Lib.hid hr; have B1 := Lib.hid (joins B0.out hb); have L1_j := Lib.hid (show w.heap.size ≤ w.heap.size from B0.out.size); clear hr hb hz)
      | ((with_reducible refine at_op (Op.store 57 (.tmp 6) (.tmp 35)) ?_); refine wpList_put_row rfl 57 (.tmp 6) (.tmp 35) rfl (w.heap.size) J rfl rfl 57 Z R1_j.out 67 infoN_climbing SK.out SZ.out OK.out w.heap.size w B1.out L1_j.out ?_; intro w2 hr hs hb; have R2_j := Lib.hid hr; have B2 := Lib.hid hb; clear hr hs hb)
      | ((with_reducible refine at_op (Op.load 45 (.tmp 36)) ?_); refine wpList_load_part rfl 45 (.tmp 36) rfl (w.heap.size) 0 rfl J C 57 (0, 0) _ R2_j.out PK.out Try.underlying45 rfl IC.out ?_))
    refine (HIP'.out _).mono ?_
    rintro e w3 ⟨rfl, hb⟩
    have R3_j := Lib.hid (rowB R2_j.out hb)
    have B3 := Lib.hid (joins B2.out hb)
    clear hb
    go_wp2_with fail
    go_returns
    exact ⟨rfl, B3.out⟩

theorem infoN_weaving : (Try.prog.info? 54).map (·.size) = some 66 := by kernel_rfl
theorem zeroN_weaving (w : World) : (zeroValue 54).run Try.prog w = .ok (.agg (prC [] [])) w := run_zero_is (by kernel_rfl) w
set_option maxHeartbeats 4000000 in
theorem isFit_weaving (p q : List Int) (hp : isSeq p = true) (w : World) :
    Calls Try.prog 17 #[.iface 54 (.agg (prC p q))] w (Ret w (.bool (decide (1 ≤ p.length)))) := by
  have HIP' := Lib.hid (prIsPair_any p q hp)
  have SK := Lib.hid (prC_size p q)
  have OK := Lib.hid (prC_one p q)
  have IC := Lib.hid (infoPrC p q)
  have SZ := Lib.hid (prC_size [] [])
  have ZZ := Lib.hid zeroN_weaving
  obtain ⟨Z, hZ⟩ : ∃ Z, Z = prC [] [] := ⟨_, rfl⟩
  rw [← hZ] at SZ ZZ
  obtain ⟨C, hC⟩ : ∃ Z, Z = prC p q := ⟨_, rfl⟩
  rw [← hC] at SK OK IC HIP' ⊢
  clear hZ hC hp
  obtain ⟨z_joining, hz_joining⟩ := zero_joining
  have as_joining := fun w => run_assert_no (P := Try.prog) w (.agg C) (.agg z_joining) 54 39 50 _ Try.underlying50 (by decide) hz_joining
  clear hz_joining
  have as_weaving := fun w => run_assert_yes (P := Try.prog) w (.agg C) 39 54 _ Try.underlying54
  have B0 := Lib.hid (Below.refl w.heap.size w)
  go_enter Try.func17, Try.ntmps17
  go_wp2_with (first
    | ((with_reducible refine at_op (d := some 4) (Op.alloc 54) ?_); refine wpList_alloc_row rfl 54 rfl Z (fun w => ZZ.out w) ?_; intro w1 hr hb hz; have R1_j := Lib.hid hr; have B1 := Lib.hid (joins B0.out hb); have L1_j := Lib.hid (show w.heap.size ≤ w.heap.size from B0.out.size); clear hr hb hz)
    | ((with_reducible refine at_op (Op.store 54 (.tmp 4) (.tmp 23)) ?_); refine wpList_put_row rfl 54 (.tmp 4) (.tmp 23) rfl (w.heap.size) C rfl rfl 54 Z R1_j.out 66 infoN_weaving SK.out SZ.out OK.out w.heap.size w B1.out L1_j.out ?_; intro w2 hr hs hb; have R2_j := Lib.hid hr; have B2 := Lib.hid hb; clear hr hs hb)
    | ((with_reducible refine at_op (Op.load 45 (.tmp 24)) ?_); refine wpList_load_part rfl 45 (.tmp 24) rfl (w.heap.size) 0 rfl C C 54 (0, 0) _ R2_j.out (Part.self _) Try.underlying45 rfl IC.out ?_))
  refine (HIP'.out _).mono ?_
  rintro e w3 ⟨rfl, hb⟩
  have R3_j := Lib.hid (rowB R2_j.out hb)
  have B3 := Lib.hid (joins B2.out hb)
  clear hb
  go_wp2_with fail
  go_returns
  exact ⟨rfl, B3.out⟩

theorem infoN_mating : (Try.prog.info? 55).map (·.size) = some 66 := by kernel_rfl
theorem zeroN_mating (w : World) : (zeroValue 55).run Try.prog w = .ok (.agg (prC [] [])) w := run_zero_is (by kernel_rfl) w
set_option maxHeartbeats 4000000 in
theorem isFit_mating (p q : List Int) (hp : isSeq p = true) (w : World) :
    Calls Try.prog 17 #[.iface 55 (.agg (prC p q))] w (Ret w (.bool (decide (1 ≤ p.length)))) := by
  have HIP' := Lib.hid (prIsPair_any p q hp)
  have SK := Lib.hid (prC_size p q)
  have OK := Lib.hid (prC_one p q)
  have IC := Lib.hid (infoPrC p q)
  have SZ := Lib.hid (prC_size [] [])
  have ZZ := Lib.hid zeroN_mating
  obtain ⟨Z, hZ⟩ : ∃ Z, Z = prC [] [] := ⟨_, rfl⟩
  rw [← hZ] at SZ ZZ
  obtain ⟨C, hC⟩ : ∃ Z, Z = prC p q := ⟨_, rfl⟩
  rw [← hC] at SK OK IC HIP' ⊢
  clear hZ hC hp
  obtain ⟨z_joining, hz_joining⟩ := zero_joining
  have as_joining := fun w => run_assert_no (P := Try.prog) w (.agg C) (.agg z_joining) 55 39 50 _ Try.underlying50 (by decide) hz_joining
  clear hz_joining
  obtain ⟨z_weaving, hz_weaving⟩ := zero_weaving
  have as_weaving := fun w => run_assert_no (P := Try.prog) w (.agg C) (.agg z_weaving) 55 39 54 _ Try.underlying54 (by decide) hz_weaving
  clear hz_weaving
  have as_mating := fun w => run_assert_yes (P := Try.prog) w (.agg C) 39 55 _ Try.underlying55
  have B0 := Lib.hid (Below.refl w.heap.size w)
  go_enter Try.func17, Try.ntmps17
  go_wp2_with (first
    | ((with_reducible refine at_op (d := some 5) (Op.alloc 55) ?_); refine wpList_alloc_row rfl 55 rfl Z (fun w => ZZ.out w) ?_; intro w1 hr hb hz; have R1_j := Lib.hid hr; have B1 := Lib.hid (joins B0.out hb); have L1_j := Lib.hid (show w.heap.size ≤ w.heap.size from B0.out.size); clear hr hb hz)
    | ((with_reducible refine at_op (Op.store 55 (.tmp 5) (.tmp 29)) ?_); refine wpList_put_row rfl 55 (.tmp 5) (.tmp 29) rfl (w.heap.size) C rfl rfl 55 Z R1_j.out 66 infoN_mating SK.out SZ.out OK.out w.heap.size w B1.out L1_j.out ?_; intro w2 hr hs hb; have R2_j := Lib.hid hr; have B2 := Lib.hid hb; clear hr hs hb)
    | ((with_reducible refine at_op (Op.load 45 (.tmp 30)) ?_); refine wpList_load_part rfl 45 (.tmp 30) rfl (w.heap.size) 0 rfl C C 55 (0, 0) _ R2_j.out (Part.self _) Try.underlying45 rfl IC.out ?_))
  refine (HIP'.out _).mono ?_
  rintro e w3 ⟨rfl, hb⟩
  have R3_j := Lib.hid (rowB R2_j.out hb)
  have B3 := Lib.hid (joins B2.out hb)
  clear hb
  go_wp2_with fail
  go_returns
  exact ⟨rfl, B3.out⟩

def prQ (p q r s : List Int) : Array Value := prC p q ++ prC r s
theorem prQ_size (p q r s : List Int) : (prQ p q r s).size = 132 := by simp [prQ, prC_size]
theorem prQ_one (p q r s : List Int) : (prQ p q r s).all (·.oneCell') = true := one_append (prC_one p q) (prC_one r s)
theorem prQ_1 (p q r s : List Int) : Part (prQ p q r s) 0 (prC p q) := (Part.self _).left
theorem prQ_2 (p q r s : List Int) : Part (prQ p q r s) 66 (prC r s) := (Part.self _).right (prC_size p q) rfl
theorem infoN_joiningMates : (Try.prog.info? 59).map (·.size) = some 132 := by kernel_rfl
theorem zeroN_joiningMates (w : World) : (zeroValue 59).run Try.prog w = .ok (.agg (prQ [] [] [] [])) w := run_zero_is (by kernel_rfl) w
set_option maxHeartbeats 4000000 in
theorem isFit_joiningMates (p q r s : List Int) (hp : isSeq p = true) (hr : isSeq r = true) (w : World) :
    Calls Try.prog 17 #[.iface 59 (.agg (prQ p q r s))] w (Ret w (.bool (decide (1 ≤ p.length) && decide (p.length = r.length)))) := by
  have HAL := Lib.hid (areAlike_any p q r s hp hr)
  have SK := Lib.hid (prQ_size p q r s)
  have OK := Lib.hid (prQ_one p q r s)
  have P1 := Lib.hid (prQ_1 p q r s)
  have P2 := Lib.hid (prQ_2 p q r s)
  have IC := Lib.hid (infoPrC p q)
  have ID := Lib.hid (infoPrC r s)
  have SZ := Lib.hid (prQ_size [] [] [] [])
  have ZZ := Lib.hid zeroN_joiningMates
  obtain ⟨Z, hZ⟩ : ∃ Z, Z = prQ [] [] [] [] := ⟨_, rfl⟩
  rw [← hZ] at SZ ZZ
  obtain ⟨J, hJ⟩ : ∃ Z, Z = prQ p q r s := ⟨_, rfl⟩
  rw [← hJ] at SK OK P1 P2 ⊢
  obtain ⟨C, hC⟩ : ∃ Z, Z = prC p q := ⟨_, rfl⟩
  rw [← hC] at P1 IC HAL
  obtain ⟨D, hD⟩ : ∃ Z, Z = prC r s := ⟨_, rfl⟩
  rw [← hD] at P2 ID HAL
  obtain ⟨b1, hb1⟩ : ∃ b, b = (decide (1 ≤ p.length) && decide (p.length = r.length)) := ⟨_, rfl⟩
  rw [← hb1] at HAL ⊢
  clear hZ hJ hC hD hb1 hp hr
  obtain ⟨z_joining, hz_joining⟩ := zero_joining
  have as_joining := fun w => run_assert_no (P := Try.prog) w (.agg J) (.agg z_joining) 59 39 50 _ Try.underlying50 (by decide) hz_joining
  clear hz_joining
  obtain ⟨z_weaving, hz_weaving⟩ := zero_weaving
  have as_weaving := fun w => run_assert_no (P := Try.prog) w (.agg J) (.agg z_weaving) 59 39 54 _ Try.underlying54 (by decide) hz_weaving
  clear hz_weaving
  obtain ⟨z_mating, hz_mating⟩ := zero_mating
  have as_mating := fun w => run_assert_no (P := Try.prog) w (.agg J) (.agg z_mating) 59 39 55 _ Try.underlying55 (by decide) hz_mating
  clear hz_mating
  obtain ⟨z_climbing, hz_climbing⟩ := zero_climbing
  have as_climbing := fun w => run_assert_no (P := Try.prog) w (.agg J) (.agg z_climbing) 59 39 57 _ Try.underlying57 (by decide) hz_climbing
  clear hz_climbing
  have as_joiningMates := fun w => run_assert_yes (P := Try.prog) w (.agg J) 39 59 _ Try.underlying59
  have B0 := Lib.hid (Below.refl w.heap.size w)
  go_enter Try.func17, Try.ntmps17
  go_wp2_with (first
    | ((with_reducible refine at_op (d := some 7) (Op.alloc 59) ?_); refine wpList_alloc_row rfl 59 rfl Z (fun w => ZZ.out w) ?_; intro w1 hr hb hz; have R1_j := Lib.hid hr; have B1 := Lib.hid (joins B0.out hb); have L1_j := Lib.hid (show w.heap.size ≤ w.heap.size from B0.out.size); clear hr hb hz)
    | ((with_reducible refine at_op (Op.store 59 (.tmp 7) (.tmp 46)) ?_); refine wpList_put_row rfl 59 (.tmp 7) (.tmp 46) rfl (w.heap.size) J rfl rfl 59 Z R1_j.out 132 infoN_joiningMates SK.out SZ.out OK.out w.heap.size w B1.out L1_j.out ?_; intro w2 hr hs hb; have R2_j := Lib.hid hr; have B2 := Lib.hid hb; clear hr hs hb)
    | ((with_reducible refine at_op (Op.load 45 (.tmp 47)) ?_); refine wpList_load_part rfl 45 (.tmp 47) rfl (w.heap.size) 0 rfl J C 59 (0, 0) _ R2_j.out P1.out Try.underlying45 rfl IC.out ?_)
    | ((with_reducible refine at_op (Op.load 45 (.tmp 49)) ?_); refine wpList_load_part rfl 45 (.tmp 49) rfl (w.heap.size) 66 rfl J D 59 (0, 0) _ R2_j.out P2.out Try.underlying45 rfl ID.out ?_))
  refine (HAL.out _).mono ?_
  rintro e w3 ⟨rfl, hb⟩
  have R3_j := Lib.hid (rowB R2_j.out hb)
  have B3 := Lib.hid (joins B2.out hb)
  clear hb
  go_wp2_with fail
  go_returns
  exact ⟨rfl, B3.out⟩
end Go.Proofs.Ytcpeikkkegpdhab
