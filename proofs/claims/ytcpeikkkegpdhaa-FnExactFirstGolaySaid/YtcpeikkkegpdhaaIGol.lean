/- The program's search of Golay pairs. -/
import Derived.Test.YtcpeikkkegpdhaaIGo
import Derived.Test.YtcpeikkkegpdhaaIBar
import Derived.Test.YtcpeikkkegpdhaaGoB
import Derived.Test.YtcpeikkkegpdhaaRowM
import Derived.Test.YtcpeikkkegpdhaaGsn
import Derived.Maps.AppendAt
namespace Go.Proofs.Ytcpeikkkegpdhaa
set_option maxRecDepth 100000
open Go.RowKit

set_option maxHeartbeats 400000 in
theorem isPaired_any (n : Int) (w : World) : Calls Try.prog 14 #[.int .i64 n] w (Pure w (.bool (smallG n))) := by
  go_enter Try.func14, Try.ntmps14
  go_wp2
  all_goals
    go_ret
    exact ⟨ret_bool (by simp only [smallG]; simp; omega), rfl⟩
/-- The cells of the pairs of these numbers, side by side. -/
def pairCells (n : Nat) (rs : List Nat) : List Value := rs.flatMap (fun r : Nat => (prC (lowD ((r / pow4 n : Nat) : Int) n) (lowD ((r % pow4 n : Nat) : Int) n)).toList)
def MakesPr (w : World) (n : Nat) (rs : List Nat) (e : Ending) (w' : World) : Prop := ∃ v, e = .returned v ∧ w'.ownsRow w.heap.size 39 66 v rs.length (pairCells n rs) ∧ Below w.heap.size w w'
theorem infoPP : (Try.prog.info? 39).map (fun i => (i.zero, i.size, i.bytes)) = some (some (.agg (prC [] [])), 66, 528) := by kernel_rfl
theorem fill_hf2 (i0 : TypeInfo) (z : Nat) (h : i0.size = z) (hz : 0 < z) (Z C : Array Value) (hC : C.size = z) : Instr.fill (fun i => some (i * i0.size, i0.size)) ((Array.range (1 * i0.size)).map ((Value.agg Z).cells[· % (Value.agg Z).cells.size]!)) [(0, .agg C)] = some C := by
  rw [h]
  have := Great.fill_whole (s := z) hz [.agg C] ((Array.range (1 * z)).map ((Value.agg Z).cells[· % (Value.agg Z).cells.size]!)) (by intro v hv; simp at hv; subst hv; simpa [Value.cells] using hC) (by simp)
  simpa [Value.cells] using this

set_option maxHeartbeats 8000000 in
theorem golaysOf_any (N : Nat) (hN1 : 1 ≤ N) (hN : N ≤ 4) (w : World) : Calls Try.prog 15 #[.int .i64 N] w (MakesPr w N (gkL N)) := by
  obtain ⟨i0, hi, hz0, hz1, hz2⟩ := info_parts infoP
  obtain ⟨i1, hj, hy0, hy1, hy2⟩ := info_parts infoPP
  have HI0 := Lib.hid hi
  have HZ00 := Lib.hid hz0
  have HZ10 := Lib.hid hz1
  have HZ20 := Lib.hid hz2
  have HI1 := Lib.hid hj
  have HZ01 := Lib.hid hy0
  have HZ11 := Lib.hid hy1
  have HZ21 := Lib.hid hy2
  have hseq : ∀ x : Nat, isSeq (lowD (x : Int) N) = true := fun x => lowD_seq x N (by omega)
  have HW : ∀ k : Nat, k < pow4 N → ∀ w, Calls Try.prog 19 #[.int .i64 N, .int .i64 k] w (Ret w (.agg (phC (lowD k N)))) := fun k hk w => by
    have := phasesWith_any N (by omega) k hk w
    rw [phC_seq (hseq k), lowD_length]; exact this
  have HB : ∀ x y : Nat, y < pow4 N → ∀ w, Calls Try.prog 20 #[.agg (prC (lowD (x : Int) N) (lowD (y : Int) N))] w (Ret w (.bool (gkB N (x * pow4 N + y)))) := fun x y hy w => by
    have := isGolayP_any _ _ (hseq x) (hseq y) (by rw [lowD_length, lowD_length]) w
    have hi := pair_index (pow4 N) x y hy
    unfold gkB
    rw [hi.1, hi.2]
    rwa [lowD_length, decide_eq_true hN1, Bool.true_and] at this
  have hrc : ∀ rs x y, y < pow4 N → pairCells N (rs ++ [x * pow4 N + y]) = pairCells N rs ++ (prC (lowD (x : Int) N) (lowD (y : Int) N)).toList := fun rs x y hy => by
    have hi := pair_index (pow4 N) x y hy
    unfold pairCells
    rw [List.flatMap_append]
    simp only [List.flatMap_cons, List.flatMap_nil, List.append_nil]
    rw [hi.1, hi.2]
  have hp := pow4_small N hN
  have hsh := shl_eq N (by omega)
  have hlen := selL_len (gkB N)
  have hyes := fun k (h : gkB N k = true) => selL_yes h
  have hno := fun k (h : gkB N k = false) => selL_no h
  obtain ⟨P, hP⟩ : ∃ P, P = gkB N := ⟨_, rfl⟩
  have hL : gkL N = selL P (pow4 N * pow4 N) := by rw [hP]; rfl
  rw [hL]
  rw [← hP] at HB hlen hyes hno
  obtain ⟨D, hD⟩ : ∃ D : Nat → Array Value, D = fun x : Nat => phC (lowD (x : Int) N) := ⟨_, rfl⟩
  have hDx : ∀ x : Nat, phC (lowD (x : Int) N) = D x := fun x => by rw [hD]
  have hsz : ∀ x, (D x).size = 33 := fun x => by rw [hD]; exact phC_size _
  have hone : ∀ x, (D x).all (·.oneCell') = true := fun x => by rw [hD]; exact phC_one _
  have hinf : ∀ x, (Try.prog.info? 37).map (·.size) = some (D x).size := fun x => by rw [hsz]; exact infoPh
  simp only [hDx] at HW
  obtain ⟨E, hE⟩ : ∃ E : Nat → Nat → Array Value, E = fun (x y : Nat) => prC (lowD (x : Int) N) (lowD (y : Int) N) := ⟨_, rfl⟩
  have hExy : ∀ x y : Nat, prC (lowD (x : Int) N) (lowD (y : Int) N) = E x y := fun x y => by rw [hE]
  have hes : ∀ x y, (E x y).size = 66 := fun x y => by rw [hE]; exact prC_size _ _
  have heo : ∀ x y, (E x y).all (·.oneCell') = true := fun x y => by rw [hE]; exact prC_one _ _
  have hei : ∀ x y, (Try.prog.info? 39).map (·.size) = some (E x y).size := fun x y => by rw [hes]; exact infoPr
  have heb : ∀ x y, Try.prog.built 39 [(0, .agg (D x)), (1, .agg (D y))] = some (E x y) := fun x y => by
    rw [built_pair (D x) (D y) (hsz x) (hsz y), hE, hD]; rfl
  simp only [hExy] at HB hrc
  obtain ⟨K, hK⟩ : ∃ K, K = pow4 N := ⟨_, rfl⟩
  rw [← hK] at HW hp hsh ⊢
  simp only [← hK] at HB hrc
  obtain ⟨hp1, hp2⟩ := hp
  have HW' := Lib.hid HW
  have HB' := Lib.hid HB
  have HRC := Lib.hid hrc
  have HLEN := Lib.hid hlen
  have HYES := Lib.hid hyes
  have HNO := Lib.hid hno
  have HSZ := Lib.hid hsz
  have HONE := Lib.hid hone
  have HINF := Lib.hid hinf
  have HES := Lib.hid hes
  have HEO := Lib.hid heo
  have HEI := Lib.hid hei
  have HEB := Lib.hid heb
  have SZ := Lib.hid (prC_size [] [])
  have ZZ := Lib.hid zeroPr
  obtain ⟨Z, hZ⟩ : ∃ Z, Z = prC [] [] := ⟨_, rfl⟩
  rw [← hZ] at SZ ZZ HZ01
  clear HW HB hrc hlen hyes hno hP hL hD hDx hsz hone hinf hE hExy hes heo hei heb hK hZ hseq hi hz0 hz1 hz2 hj hy0 hy1 hy2
  have B0 := Lib.hid (Below.refl w.heap.size w)
  go_enter Try.func15, Try.ntmps15
  go_wp2_with (at_make; refine wpList_make_full _ rfl _ _ 42 rfl w.heap.size 37 i0 (.agg (phA z32 0)) 33 Try.underlying42 HI0.out HZ00.out HZ10.out _ _ _ _ K rfl rfl hsh hsh ?b2_1 ?b3_1 (Nat.le_refl _) ?_)
  case b2_1 => rw [HZ20.out]; omega
  case b3_1 => unfold maxLen; omega
  intro w1 hown0 hgrow0
  have hb : Below w.heap.size w w1 := (Below.refl _ _).grown hgrow0 (Nat.le_refl _) (fun k h => by cases h)
  have B1 := Lib.hid (joins B0.out hb)
  have O1_all := Lib.hid hown0
  have L1_all := Lib.hid (show w.heap.size ≤ w.heap.size from B0.out.size)
  clear hown0 hgrow0 hb
  have FA := Lib.hid (AllAt.start (D := D) O1_all.out)
  clear O1_all
  go_wp2_with fail
  go_loopw [17] (fun i wr => ∃ k : Nat, k ≤ K ∧ i = .int .i64 k ∧ AllAt wr w.heap.size 33 K D k ∧ Below w.heap.size w wr) (fun i _ => K - (intOf i).toNat)
  case atStart => exact ⟨0, Nat.zero_le _, rfl, FA.out, B1.out⟩
  case round =>
    obtain ⟨k, hk, rfl, hall, hbel⟩ := hrel
    have FR := Lib.hid hall
    have BR := Lib.hid hbel
    clear hall hbel
    by_cases hlt : k < K
    · have h0 : (0 : Int) ≤ (k : Int) := by omega
      have h1 : (k : Int) < (K : Int) := by omega
      have HWk := Lib.hid (HW'.out k hlt)
      obtain ⟨C, hC⟩ : ∃ C, C = D k := ⟨_, rfl⟩
      rw [← hC] at HWk
      have HC := Lib.hid hC
      clear hC
      go_wp2_with fail
      refine (HWk.out _).mono ?_
      rintro e w21 ⟨rfl, hb⟩
      have F21_all := Lib.hid (FR.out.below hb)
      have B21 := Lib.hid (joins BR.out hb)
      clear hb
      go_wp2_with ((with_reducible refine at_op (Op.store 37 (.tmp 25) (.tmp 24)) ?_); refine wpList_put_at rfl 37 (.tmp 25) (.tmp 24) rfl w.heap.size 33 K k D rfl (congrArg Value.agg HC.out) F21_all.out hlt HSZ.out infoPh (HONE.out k) w.heap.size w B21.out (Nat.le_refl _) ?_; intro w30 ha30 hs30 hb30)
      go_roundw
      case rel => exact ⟨k + 1, by omega, by go_num, ha30, hb30⟩
      case measure => simp [intOf]; omega
    · obtain rfl : K = k := by omega
      clear hlt
      go_wp2_with fail
      go_loopw [29, 5] (fun i c wr => ∃ x : Nat, x ≤ K ∧ i = .int .i64 x ∧ wr.ownsRow (w.heap.size + 1) 39 66 c (selL P (x * K)).length (pairCells N (selL P (x * K))) ∧ AllAt wr w.heap.size 33 K D K ∧ Below w.heap.size w wr) (fun i _ _ => K - (intOf i).toNat)
      case atStart => exact ⟨0, Nat.zero_le _, rfl, by rw [Nat.zero_mul]; exact World.ownsRow_nil _ _ _ _, FR.out, BR.out⟩
      case round =>
        obtain ⟨x, hx, rfl, hown, hall, hbel⟩ := hrel
        have HO := Lib.hid hown
        have FX := Lib.hid hall
        have BX := Lib.hid hbel
        clear hown hall hbel FR BR
        generalize wr = wo at *
        by_cases hxlt : x < K
        · have h2 : (0 : Int) ≤ (x : Int) := by omega
          have h3 : (x : Int) < (K : Int) := by omega
          have HBx := Lib.hid (HB'.out x)
          go_wp2_with (first
            | ((with_reducible refine at_op (Op.load 37 (.tmp 31)) ?_); refine wpList_load_at rfl 37 (.tmp 31) rfl w.heap.size 33 K K x D rfl FX.out hxlt (HSZ.out x) _ Try.underlying37 rfl infoPh ?_)
            | ((with_reducible refine at_op (d := some 7) (Op.alloc 37) ?_); refine wpList_alloc_row rfl 37 rfl (phA z32 0) zeroPh ?_; intro w31 hr hb hz; have R31_a := Lib.hid hr; have L31_a := Lib.hid (show wo.heap.size ≤ wo.heap.size from Nat.le_refl _); have D31 := Lib.hid (hb); clear hr hb hz)
            | ((with_reducible refine at_op (Op.store 37 (.tmp 7) (.tmp 32)) ?_); refine wpList_put_row rfl 37 (.tmp 7) (.tmp 32) rfl (wo.heap.size) (D x) rfl rfl 37 (phA z32 0) R31_a.out 33 infoPh (HSZ.out x) (phA_size _ _ z32_length) (HONE.out x) wo.heap.size wo D31.out L31_a.out ?_; intro w32 hr hs hb; have R32_a := Lib.hid hr; have O32_c := Lib.hid (rowBelow HO.out hb); have F32_all := Lib.hid (FX.out.below hb); have B32 := Lib.hid (joins BX.out hb); have L32_a := Lib.hid (Nat.le_trans BX.out.size L31_a.out); clear hr hs hb))
          go_wp2_with fail
          have HNE := Lib.hid (fun (c : Value) n xs (h : wo.ownsRow (w.heap.size + 1) 39 66 c n xs) j (hj : c.ownBlock = some j) => Nat.ne_of_lt (h.lt j hj).2)
          go_loopw [35, 5] (fun i c wr => ∃ y : Nat, y ≤ K ∧ i = .int .i64 y ∧ wr.ownsRow (w.heap.size + 1) 39 66 c (selL P (x * K + y)).length (pairCells N (selL P (x * K + y))) ∧ (∀ j, c.ownBlock = some j → j ≠ wo.heap.size) ∧ AllAt wr w.heap.size 33 K D K ∧ wr.heap[wo.heap.size]? = some (.cells (D x) 37 (0, 0)) ∧ Below w.heap.size w wr) (fun i _ _ => K - (intOf i).toNat)
          case atStart => exact ⟨0, Nat.zero_le _, rfl, O32_c.out, HNE.out _ _ _ HO.out, F32_all.out, R32_a.out, B32.out⟩
          case round =>
            obtain ⟨y, hy, rfl, hown, hne, hall, hrow, hbel⟩ := hrel
            have HOY := Lib.hid hown
            have HN := Lib.hid hne
            have FY := Lib.hid hall
            have RY := Lib.hid hrow
            have BY := Lib.hid hbel
            clear hown hne hall hrow hbel
            by_cases hylt : y < K
            · have h4 : (0 : Int) ≤ (y : Int) := by omega
              have h5 : (y : Int) < (K : Int) := by omega
              have HBy := HBx.out y hylt
              have HRy := Lib.hid (HRC.out (selL P (x * K + y)) x y hylt)
              have hye := HYES.out (x * K + y)
              have hnn := HNO.out (x * K + y)
              have hle := HLEN.out (x * K + y)
              have hxk : x * K ≤ 65536 := by
                have := Nat.mul_le_mul (show x ≤ 256 by omega) hp2
                omega
              obtain ⟨L, hL⟩ : ∃ L, L = (selL P (x * K + y)) := ⟨_, rfl⟩
              rw [← hL] at HOY hye hnn hle HRy
              obtain ⟨C, hC⟩ : ∃ C, C = E x y := ⟨_, rfl⟩
              have HEBy := Lib.hid (HEB.out x y)
              have SC := Lib.hid (HES.out x y)
              have OC := Lib.hid (HEO.out x y)
              have IC := Lib.hid (HEI.out x y)
              rw [← hC] at HBy HRy HEBy SC OC IC
              have ONE2 := Lib.hid (show ∀ u ∈ C.toList, u.oneCell' = true from fun u hu => Array.all_eq_true_iff_forall_mem.1 OC.out u (by simpa using hu))
              have HLE := Lib.hid (show L.length ≤ 131072 by omega)
              have HLd := Lib.hid hL
              clear hle hL hC hxk
              cases hz : P (x * K + y) with
              | true =>
                rw [hz] at HBy
                have HBy' := Lib.hid HBy
                have HYE := Lib.hid (hye hz)
                clear HBy hye hnn hz
                go_wp2_with (first
                  | ((with_reducible refine at_op (Op.load 37 (.tmp 37)) ?_); refine wpList_load_at rfl 37 (.tmp 37) rfl w.heap.size 33 K K y D rfl FY.out hylt (HSZ.out y) _ Try.underlying37 rfl infoPh ?_)
                  | ((with_reducible refine at_op (d := some 9) (Op.alloc 37) ?_); refine wpList_alloc_row rfl 37 rfl (phA z32 0) zeroPh ?_; intro w41 hr hb hz; have R41_b := Lib.hid hr; have L41_b := Lib.hid (show wr.heap.size ≤ wr.heap.size from Nat.le_refl _); have D41 := Lib.hid (hb); clear hr hb hz)
                  | ((with_reducible refine at_op (Op.store 37 (.tmp 9) (.tmp 38)) ?_); refine wpList_put_row rfl 37 (.tmp 9) (.tmp 38) rfl (wr.heap.size) (D y) rfl rfl 37 (phA z32 0) R41_b.out 33 infoPh (HSZ.out y) (phA_size _ _ z32_length) (HONE.out y) wr.heap.size wr D41.out L41_b.out ?_; intro w42 hr hs hb; have R42_b := Lib.hid hr; have R42_a := Lib.hid (rowB RY.out hb); have O42_c := Lib.hid (rowBelow HOY.out hb); have F42_all := Lib.hid (FY.out.below hb); have B42 := Lib.hid (joins BY.out hb); have L42_b := Lib.hid (Nat.le_trans BY.out.size L41_b.out); clear hr hs hb)
                  | ((with_reducible refine at_op (Op.load 37 (.tmp 7)) ?_); refine wpList_load_part rfl 37 (.tmp 7) rfl (wo.heap.size) 0 rfl (D x) (D x) 37 (0, 0) _ R42_a.out (Part.self _) Try.underlying37 rfl (HINF.out x) ?_)
                  | ((with_reducible refine at_op (Op.load 37 (.tmp 9)) ?_); refine wpList_load_part rfl 37 (.tmp 9) rfl (wr.heap.size) 0 rfl (D y) (D y) 37 (0, 0) _ R42_b.out (Part.self _) Try.underlying37 rfl (HINF.out y) ?_)
                  | ((with_reducible refine at_op (Op.build 39 #[(0, .tmp 39), (1, .tmp 40)]) ?_); refine wpList_build_row rfl 39 [(0, .tmp 39), (1, .tmp 40)] rfl C HEBy.out ?_)
                  | ((with_reducible refine at_op (d := some 10) (Op.alloc 39) ?_); refine wpList_alloc_row rfl 39 rfl Z (fun w => ZZ.out w) ?_; intro w43 hr hb hz; have R43_p := Lib.hid hr; have L43_p := Lib.hid (show w42.heap.size ≤ w42.heap.size from Nat.le_refl _); have D43 := Lib.hid (hb); clear hr hb hz)
                  | ((with_reducible refine at_op (Op.store 39 (.tmp 10) (.tmp 41)) ?_); refine wpList_put_row rfl 39 (.tmp 10) (.tmp 41) rfl (w42.heap.size) C rfl rfl 39 Z R43_p.out 66 infoPr SC.out SZ.out OC.out w42.heap.size w42 D43.out L43_p.out ?_; intro w44 hr hs hb; have R44_p := Lib.hid hr; have R44_a := Lib.hid (rowB R42_a.out hb); have O44_c := Lib.hid (rowBelow O42_c.out hb); have F44_all := Lib.hid (F42_all.out.below hb); have B44 := Lib.hid (joins B42.out hb); have L44_p := Lib.hid (Nat.le_trans B42.out.size L43_p.out); clear hr hs hb)
                  | ((with_reducible refine at_op (d := some 42) (Op.load 39 (.tmp 10)) ?_); refine wpList_load_part rfl 39 (.tmp 10) rfl (w42.heap.size) 0 rfl C C 39 (0, 0) _ R44_p.out (Part.self _) Try.underlying39 rfl IC.out ?_))
                refine (HBy'.out _).mono ?_
                rintro e w45 ⟨rfl, hb⟩
                have R45_a := Lib.hid (rowB R44_a.out hb)
                have R45_p := Lib.hid (rowB R44_p.out hb)
                have O45_c := Lib.hid (rowBelow O44_c.out hb)
                have F45_all := Lib.hid (F44_all.out.below hb)
                have B45 := Lib.hid (joins B44.out hb)
                clear hb
                go_wp2_with (first
                  | ((with_reducible refine at_op (d := some 45) (Op.load 39 (.tmp 10)) ?_); refine wpList_load_part rfl 39 (.tmp 10) rfl (w42.heap.size) 0 rfl C C 39 (0, 0) _ R45_p.out (Part.self _) Try.underlying39 rfl IC.out ?_)
                  | (refine wpList_buildSlice rfl 33 39 1 #[(0, .tmp 45)] rfl C i1 (.agg Z) Try.underlying33 HI1.out HZ01.out (by rw [HZ11.out]; decide) (by rw [HZ11.out]; decide) (by rw [parts_one]; exact fill_hf2 i1 66 HZ11.out (by omega) Z C SC.out) ?_)
                  | (at_builtin; refine wpList_append_own_at _ rfl (.tmp 44) (.tmp 46) 33 rfl (w.heap.size + 1) 39 i1 (.agg Z) 66 528 Try.underlying33 HI1.out HZ01.out HZ11.out HZ21.out SZ.out (by decide) _ L.length (pairCells N L) rfl (O45_c.out.alloc _) ⟨w45.heap.size, 0, none⟩ 1 1 C.toList rfl (by simp [SC.out]) (news_row w45 C _) ONE2.out (by have := HLE.out; unfold maxLen; omega) (by have := HLE.out; omega) (by have := F45_all.out.lt; simp; omega) ?_; intro v5 w50 ho5 hg5 _ hat5))
                have hnb : ∀ j, j < w45.heap.size → u5.ownBlock ≠ some j → w50.heap[j]? = w45.heap[j]? := fun j hj hne => (hg5.block j (by simp; omega) (fun e => hne e.symm)).trans (heap_alloc_old _ _ hj)
                have F5 := Lib.hid (AllAt.block F45_all.out (hnb _ F45_all.out.lt (fun e => by have := (O45_c.out.lt _ e).1; omega)) (by have := F45_all.out.lt; have := hg5.size; simp at this; omega))
                have R5 := Lib.hid ((hnb _ (row_lt R45_a.out) (fun e => HN.out _ e rfl)).trans R45_a.out)
                have HB5 := Lib.hid ((belowa B45.out (.cells C 39)).grown hg5 (by have := B45.out.size; simp; omega) (fun k hk => by have := (O45_c.out.lt k hk).1; omega))
                have HN5 := Lib.hid (show ∀ j, v5.ownBlock = some j → j ≠ wo.heap.size from fun j hj => by
                  rcases (show v5.ownBlock = u5.ownBlock ∨ v5.ownBlock = some _ from hat5) with e | e
                  · exact HN.out j (by rw [← e]; exact hj)
                  · rw [e] at hj; have h6 := Option.some.inj hj; have h7 := row_lt R45_a.out; simp at h6; omega)
                have HO5 := Lib.hid ho5
                clear ho5 hg5 hat5 hnb
                go_wp2_with fail
                go_roundw
                case rel => exact ⟨y + 1, by omega, by go_num, by rw [← Nat.add_assoc, HYE.out, HRy.out, List.length_append]; exact HO5.out, HN5.out, F5.out, R5.out, HB5.out⟩
                case measure => simp [intOf]; omega
              | false =>
                rw [hz] at HBy
                have HBy' := Lib.hid HBy
                have HNE2 := Lib.hid (hnn hz)
                clear HBy hye hnn hz
                go_wp2_with (first
                  | ((with_reducible refine at_op (Op.load 37 (.tmp 37)) ?_); refine wpList_load_at rfl 37 (.tmp 37) rfl w.heap.size 33 K K y D rfl FY.out hylt (HSZ.out y) _ Try.underlying37 rfl infoPh ?_)
                  | ((with_reducible refine at_op (d := some 9) (Op.alloc 37) ?_); refine wpList_alloc_row rfl 37 rfl (phA z32 0) zeroPh ?_; intro w41 hr hb hz; have R41_b := Lib.hid hr; have L41_b := Lib.hid (show wr.heap.size ≤ wr.heap.size from Nat.le_refl _); have D41 := Lib.hid (hb); clear hr hb hz)
                  | ((with_reducible refine at_op (Op.store 37 (.tmp 9) (.tmp 38)) ?_); refine wpList_put_row rfl 37 (.tmp 9) (.tmp 38) rfl (wr.heap.size) (D y) rfl rfl 37 (phA z32 0) R41_b.out 33 infoPh (HSZ.out y) (phA_size _ _ z32_length) (HONE.out y) wr.heap.size wr D41.out L41_b.out ?_; intro w42 hr hs hb; have R42_b := Lib.hid hr; have R42_a := Lib.hid (rowB RY.out hb); have O42_c := Lib.hid (rowBelow HOY.out hb); have F42_all := Lib.hid (FY.out.below hb); have B42 := Lib.hid (joins BY.out hb); have L42_b := Lib.hid (Nat.le_trans BY.out.size L41_b.out); clear hr hs hb)
                  | ((with_reducible refine at_op (Op.load 37 (.tmp 7)) ?_); refine wpList_load_part rfl 37 (.tmp 7) rfl (wo.heap.size) 0 rfl (D x) (D x) 37 (0, 0) _ R42_a.out (Part.self _) Try.underlying37 rfl (HINF.out x) ?_)
                  | ((with_reducible refine at_op (Op.load 37 (.tmp 9)) ?_); refine wpList_load_part rfl 37 (.tmp 9) rfl (wr.heap.size) 0 rfl (D y) (D y) 37 (0, 0) _ R42_b.out (Part.self _) Try.underlying37 rfl (HINF.out y) ?_)
                  | ((with_reducible refine at_op (Op.build 39 #[(0, .tmp 39), (1, .tmp 40)]) ?_); refine wpList_build_row rfl 39 [(0, .tmp 39), (1, .tmp 40)] rfl C HEBy.out ?_)
                  | ((with_reducible refine at_op (d := some 10) (Op.alloc 39) ?_); refine wpList_alloc_row rfl 39 rfl Z (fun w => ZZ.out w) ?_; intro w43 hr hb hz; have R43_p := Lib.hid hr; have L43_p := Lib.hid (show w42.heap.size ≤ w42.heap.size from Nat.le_refl _); have D43 := Lib.hid (hb); clear hr hb hz)
                  | ((with_reducible refine at_op (Op.store 39 (.tmp 10) (.tmp 41)) ?_); refine wpList_put_row rfl 39 (.tmp 10) (.tmp 41) rfl (w42.heap.size) C rfl rfl 39 Z R43_p.out 66 infoPr SC.out SZ.out OC.out w42.heap.size w42 D43.out L43_p.out ?_; intro w44 hr hs hb; have R44_p := Lib.hid hr; have R44_a := Lib.hid (rowB R42_a.out hb); have O44_c := Lib.hid (rowBelow O42_c.out hb); have F44_all := Lib.hid (F42_all.out.below hb); have B44 := Lib.hid (joins B42.out hb); have L44_p := Lib.hid (Nat.le_trans B42.out.size L43_p.out); clear hr hs hb)
                  | ((with_reducible refine at_op (d := some 42) (Op.load 39 (.tmp 10)) ?_); refine wpList_load_part rfl 39 (.tmp 10) rfl (w42.heap.size) 0 rfl C C 39 (0, 0) _ R44_p.out (Part.self _) Try.underlying39 rfl IC.out ?_))
                refine (HBy'.out _).mono ?_
                rintro e w45 ⟨rfl, hb⟩
                have R45_a := Lib.hid (rowB R44_a.out hb)
                have R45_p := Lib.hid (rowB R44_p.out hb)
                have O45_c := Lib.hid (rowBelow O44_c.out hb)
                have F45_all := Lib.hid (F44_all.out.below hb)
                have B45 := Lib.hid (joins B44.out hb)
                clear hb
                go_wp2_with fail
                go_roundw
                case rel => exact ⟨y + 1, by omega, by go_num, by rw [← Nat.add_assoc, HNE2.out]; exact O45_c.out, HN.out, F45_all.out, R45_a.out, B45.out⟩
                case measure => simp [intOf]; omega
            · obtain rfl : K = y := by omega
              go_wp2_with fail
              go_roundw
              case rel => exact ⟨x + 1, by omega, by go_num, by rw [Nat.add_mul, Nat.one_mul]; exact HOY.out, FY.out, BY.out⟩
              case measure => simp [intOf]; omega
        · obtain rfl : K = x := by omega
          go_wp2_with fail
          go_returns
          exact ⟨_, rfl, rowMono HO.out (by omega), BX.out⟩
end Go.Proofs.Ytcpeikkkegpdhaa
