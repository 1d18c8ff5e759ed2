/- The program's search for perfect arrays. -/
import Derived.Test.YtjoepdflbbcliabQaM
import Derived.Test.YtjoepdflbbcliabIW8
import Derived.Test.YtjoepdflbbcliabIGw
import Derived.Test.YtjoepdflbbcliabIGp
namespace Go.Proofs.Ytjoepdflbbcliab
set_option maxRecDepth 100000
open Go.RowKit

theorem pq_cell (l : List Int) (n c : Nat) (hl : l.length ≤ 32) (hc : c < 32) : (phA (padL l) n)[c]? = some (.int .i64 (l.getD c 0)) := by
  rw [phA_get _ _ _ (by rw [padL_length hl]; exact hc)]
  congr 2
  by_cases h : c < l.length
  · exact pad_getD l c h
  · simp only [padL, List.getD, List.getElem?_append, List.getElem?_replicate, if_neg h, List.getElem?_eq_none (Nat.le_of_not_lt h), Option.getD_none]
    split <;> rfl

set_option maxRecDepth 100000 in
set_option maxHeartbeats 2000000 in
theorem pa11_any (R C k : Nat) (hn : R * C ≤ 6) (i j : Nat) (hi : i < R) (hj : j < C) (g1 g2 : Nat) (w : World)
    (h1 : w.heap[g1]? = some (.cells (phA (padL (lowD (k : Int) (R * C))) (R * C : Nat)) 72 (0, 0))) (h2 : w.cell? ⟨g2, 0, none⟩ = some (.int .i64 C)) :
    Calls Try.prog 77 #[.int .i64 i, .int .i64 j, .pointer (some ⟨g1, 0, none⟩), .pointer (some ⟨g2, 0, none⟩)] w (Ret w (.int .i64 ((lowD (k : Int) (R * C)).getD (i * C + j) 0))) := by
  have hp := place_lt hi hj
  have hc : w.cell? ⟨g1, C * i + j, none⟩ = some (.int .i64 ((lowD (k : Int) (R * C)).getD (i * C + j) 0)) := by
    rw [cell_of_row w _ _ _ _ _ h1, Nat.mul_comm C i]
    exact pq_cell _ _ _ (by rw [lowD_length]; omega) (by omega)
  obtain ⟨x, hx⟩ : ∃ x, x = (lowD (k : Int) (R * C)).getD (i * C + j) 0 := ⟨_, rfl⟩
  rw [← hx] at hc ⊢
  obtain ⟨t, ht⟩ : ∃ t, t = C * i := ⟨_, rfl⟩
  have e1 : (C : Int) * (i : Int) = (t : Int) := by rw [ht]; push_cast; rfl
  rw [Nat.mul_comm i C, ← ht] at hp
  rw [← ht] at hc
  have e2 : (0 : Int) ≤ (t : Int) + (j : Int) := by omega
  have e3 : (t : Int) + (j : Int) < 32 := by omega
  clear hx ht h1 hi hj
  go_enter Try.func77, Try.ntmps77
  go_wp2_with fail
  go_returns
  exact ⟨rfl, Below.refl _ _⟩

set_option maxRecDepth 100000 in
set_option maxHeartbeats 2000000 in
/-- The maker of the array with a rank: the number of phases, the rows and the columns lie in boxes. -/
theorem paWith (R C k : Nat) (hR : 1 ≤ R ∧ R ≤ 6) (hC : 1 ≤ C ∧ C ≤ 6) (hn : R * C ≤ 6) (hk : k < pow4' (R * C)) (Bz Br Bc : Nat) (w : World)
    (c1 : w.cell? ⟨Bz, 0, none⟩ = some (.int .i64 (R * C : Nat))) (c2 : w.cell? ⟨Br, 0, none⟩ = some (.int .i64 R)) (c3 : w.cell? ⟨Bc, 0, none⟩ = some (.int .i64 C)) :
    Calls Try.prog 75 #[.int .i64 k, .pointer (some ⟨Bz, 0, none⟩), .pointer (some ⟨Br, 0, none⟩), .pointer (some ⟨Bc, 0, none⟩)] w (Ret w (.agg (pqG R C k))) := by
  have HW := Lib.hid (fun w' => phasesWith8 (R * C) (by omega) k hk w')
  have HG := Lib.hid (fun p0 p1 w' hat => gridWith_perfect R C (fun i j => (lowD (k : Int) (R * C)).getD (i * C + j) 0) (by omega) (by omega) (fun i j hi hj => by have := low_at3 (k : Int) (R * C) _ (place_lt hi hj); omega) p0 p1 w' hat)
  rw [← pqG_eq R C k (by omega) (by omega)] at HG
  have HAT := Lib.hid (fun i j hi hj g1 g2 w' h1 h2 => pa11_any R C k hn i j hi hj g1 g2 w' h1 h2)
  have hsz : (phA (padL (lowD k (R * C))) (R * C : Nat)).size = 33 := phA_size _ _ (padL_length (by rw [lowD_length]; omega))
  have hone := phA_one (padL (lowD k (R * C))) (R * C : Nat)
  have hgs : (pqG R C k).size = 66 := grA_size _ _ _
  have hgo : (pqG R C k).all (·.oneCell') = true := grA_one _ _ _
  have hi : (Try.prog.info? 53).map (·.size) = some (pqG R C k).size := by rw [hgs]; exact infoGr
  obtain ⟨P, hP⟩ : ∃ P, P = phA (padL (lowD k (R * C))) (R * C : Nat) := ⟨_, rfl⟩
  obtain ⟨G, hG⟩ : ∃ G, G = pqG R C k := ⟨_, rfl⟩
  rw [← hP] at HW HAT hsz hone
  rw [← hG] at HG hgs hgo hi ⊢
  obtain ⟨n, hn'⟩ : ∃ n, n = R * C := ⟨_, rfl⟩
  rw [← hn'] at c1 HW
  have HSZ := Lib.hid hsz
  have HONE := Lib.hid hone
  have HGS := Lib.hid hgs
  have HGO := Lib.hid hgo
  have HI := Lib.hid hi
  have ZZ := Lib.hid zeroGr
  have k1 : (w.alloc (.cells (grA G0 0 0) 53)).cell? ⟨Bz, 0, none⟩ = some (.int .i64 n) := cell_kept c1 (World.grownBy_alloc w _ none) (fun r e => by cases e)
  have k2 : (w.alloc (.cells (grA G0 0 0) 53)).cell? ⟨Br, 0, none⟩ = some (.int .i64 R) := cell_kept c2 (World.grownBy_alloc w _ none) (fun r e => by cases e)
  have k3 : (w.alloc (.cells (grA G0 0 0) 53)).cell? ⟨Bc, 0, none⟩ = some (.int .i64 C) := cell_kept c3 (World.grownBy_alloc w _ none) (fun r e => by cases e)
  have h04 : (w.alloc (.cells (grA G0 0 0) 53)).heap[w.heap.size]? = some (.cells (grA G0 0 0) 53 (0, 0)) := heap_alloc_new w _
  have H04 := Lib.hid h04
  clear hsz hone hgs hgo hi hP hG hn' h04 c1 c2 c3 hn hk hR hC
  go_enter Try.func75, Try.ntmps75
  go_wp2_with (refine wpList_alloc_big rfl 53 rfl (grA G0 0 0) ZZ.out ?_)
  refine (HW.out _).mono ?_
  rintro e w1 ⟨rfl, hb1⟩
  have k2' : w1.cell? ⟨Br, 0, none⟩ = some (.int .i64 R) := keepc hb1 k2
  have k3' : w1.cell? ⟨Bc, 0, none⟩ = some (.int .i64 C) := keepc hb1 k3
  have H14 := Lib.hid ((hb1.block w.heap.size (by simp)).trans H04.out)
  have HB1 := Lib.hid (joins (belowa (Below.refl _ _) _) hb1)
  have hs1 : w.heap.size + 1 ≤ w1.heap.size := by have := hb1.size; simpa using this
  clear hb1 k1 k2 k3
  go_wp2_with (first
    | (refine wpList_alloc_big rfl 72 rfl (phA z32 0) zeroPh ?_)
    | (refine wpList_store_big rfl 72 (.tmp 6) (.tmp 9) rfl w1.heap.size P rfl rfl 72 _ (heap_alloc_new w1 _) 33 infoPh HSZ.out (phA_size _ _ z32_length) HONE.out w1.heap.size w1 (belowa (Below.refl _ _) _) (Nat.le_refl _) ?_; intro w2 hg2 ho2 hz2 hb2; have HG2 := Lib.hid hg2; have HB2 := Lib.hid hb2; have k2'' : w2.cell? ⟨Br, 0, none⟩ = some (.int .i64 R) := keepc hb2 k2'; have k3'' : w2.cell? ⟨Bc, 0, none⟩ = some (.int .i64 C) := keepc hb2 k3'; clear hg2 ho2 hz2 hb2))
  have H24 := Lib.hid ((HB2.out.block w.heap.size (by omega)).trans H14.out)
  have hs2 : w.heap.size + 1 ≤ w2.heap.size := Nat.le_trans hs1 HB2.out.size
  refine (HG.out _ _ _ (fun w' hw' i j hi hj => HAT.out i j hi hj _ _ w' ((hw'.block w1.heap.size (Array.getElem?_eq_some_iff.1 HG2.out).1).trans HG2.out) (keepc hw' k3''))).mono ?_
  rintro e w3 ⟨rfl, hb3⟩
  have H34 := Lib.hid ((hb3.block w.heap.size (by omega)).trans H24.out)
  have HB3 := Lib.hid (joins (joins HB1.out HB2.out) hb3)
  clear hb3
  go_wp2_with (refine wpList_store_big rfl 53 (.tmp 5) (.tmp 13) rfl w.heap.size G rfl rfl 53 (grA G0 0 0) H34.out 66 infoGr HGS.out (grA_size _ _ _) HGO.out w.heap.size w HB3.out (Nat.le_refl _) ?_; intro w4 hg4 ho4 hz4 hb4; have HG4 := Lib.hid hg4; have HB4 := Lib.hid hb4; clear hg4 ho4 hz4 hb4)
  refine bodyPost_ret (v := .agg G) ?_ rfl ⟨rfl, HB4.out⟩
  exact results_cell_row Try.results75 _ _ w.heap.size 53 G (0, 0) _ rfl HG4.out Try.underlying53 rfl HI.out

attribute [local go_sem] Oper.semAt_some

theorem KeepS.cellG {S : Nat → Prop} {A B : World} (h : KeepS S A B) {b o : Nat} (hb : S b) : B.cell? ⟨b, o, none⟩ = A.cell? ⟨b, o, none⟩ := by simp [World.cell?, h b hb]
theorem meth_gr (fuel : Nat) (C : Array Value) (w : World) : (method (fuel + 1) 53 (.agg C) "loop.example/g01177/impl.isPerfect").run Try.prog w = .ok (44, .agg C) w := by kernel_rfl
attribute [local go_sem] meth_gr
theorem cell_nG (W : World) (v : Value) (t : TypeId) : (W.alloc (.cells #[v] t)).cell? ⟨W.heap.size, 0, none⟩ = some v := (Boxed.new W t v).cell
theorem cell_oG {W : World} {a : Addr} {v : Value} (o : Obj) (h : W.cell? a = some v) : (W.alloc o).cell? a = some v := cell_kept h (World.grownBy_alloc W o none) (fun r e => by cases e)

set_option maxRecDepth 100000 in
set_option maxHeartbeats 4000000 in
theorem perfectOfG1 (m : Nat) (hm : 1 ≤ m) (R C : Nat) (hR : 1 ≤ R ∧ R ≤ 6) (hC : 1 ≤ C ∧ C ≤ 6) (hN : R * C ≤ 6) (Bs Bw Bz Br Bc : Nat) (S : Nat → Prop) (h1 : S Bs) (h2 : S Bw) (h3 : S Bz) (h4 : S Br) (h5 : S Bc) (w : World) (hS : ∀ k, S k → k < w.heap.size)
    (c1 : w.cell? ⟨Bs, 0, none⟩ = some (.int .i64 (R * C : Nat))) (c2 : w.cell? ⟨Bw, 0, none⟩ = some (.func (.func 75) #[] #[.pointer (some ⟨Bz, 0, none⟩), .pointer (some ⟨Br, 0, none⟩), .pointer (some ⟨Bc, 0, none⟩)])) (c3 : w.cell? ⟨Bz, 0, none⟩ = some (.int .i64 (R * C : Nat))) (c4 : w.cell? ⟨Br, 0, none⟩ = some (.int .i64 R)) (c5 : w.cell? ⟨Bc, 0, none⟩ = some (.int .i64 C)) :
    SeqStopsK Fence.wide m Try.prog 79 #[.pointer (some ⟨Bs, 0, none⟩), .pointer (some ⟨Bw, 0, none⟩)] (fun r : Nat => #[Value.agg (pqG R C r)]) (KeepS S)
      (fun xs => xs = rkL (pqB R C) (pow4' (R * C))) (fun pre => ∃ k, k < pow4' (R * C) ∧ pqB R C k = true ∧ pre = rkL (pqB R C) (k + 1)) (pow4' (R * C)) w := fun l J Jx W hW hJ hJx hY h0 => by
  have hKW : KeepS S w W := KeepS.below hS hW
  rw [← hKW.cellG h1] at c1
  rw [← hKW.cellG h2] at c2
  rw [← hKW.cellG h3] at c3
  rw [← hKW.cellG h4] at c4
  rw [← hKW.cellG h5] at c5
  have ZZ := Lib.hid zeroGr
  have HW := Lib.hid (fun (k : Nat) (hk : k < pow4' (R * C)) w' c1 c2 c3 => paWith R C k hR hC hN hk Bz Br Bc w' c1 c2 c3)
  have HP := Lib.hid (fun (k : Nat) w' => show Calls Try.prog 44 #[.agg (pqG R C k)] w' (Ret w' (.bool (pqB R C k))) by
    have := grPerfect_any (pqM R C k) w'
    rwa [show pwA (pqM R C k) = pqB R C k by unfold pwA pqB; rw [pqM_ok R C k (by omega) (by omega), if_pos rfl]] at this)
  have HSZ := Lib.hid (fun k => show (pqG R C k).size = 66 from grA_size _ _ _)
  have HONE := Lib.hid (fun k => show (pqG R C k).all (·.oneCell') = true from grA_one _ _ _)
  have HST := Lib.hid (fun k => show rkL (pqB R C) (k + 1) = if pqB R C k then rkL (pqB R C) k ++ [k] else rkL (pqB R C) k from rfl)
  have hp := pow4_le' (R * C) (by omega)
  have hsh := shl_eq' (R * C) (by omega)
  have HLEN := Lib.hid (rkL_len (pqB R C))
  have HBIG := Lib.hid hS
  obtain ⟨B, hB⟩ : ∃ B, B = pqB R C := ⟨_, rfl⟩
  obtain ⟨K, hK⟩ : ∃ K, K = pow4' (R * C) := ⟨_, rfl⟩
  rw [← hK] at HW hp hsh hY ⊢
  obtain ⟨n, hn⟩ : ∃ n, n = R * C := ⟨_, rfl⟩
  rw [← hn] at c1 c3 hsh HW
  have hn6 : n ≤ 6 := by rw [hn]; exact hN
  rw [← hB] at HP HST HLEN ⊢
  have HY := Lib.hid hY
  clear hB hK hn hY hS hN hR hC
  refine callsIn_of_wp Try.func79 rfl trivial ?_ rfl
  simp only [Try.ntmps79, List.size_toArray, List.length_cons, List.length_nil, Nat.reduceAdd, Nat.reduceSub, Array.replicate_succ, Array.replicate_zero, List.push_toArray, List.append_toArray, List.nil_append, List.cons_append]
  gi_wp2
  gi_loopw [9] (fun i wr => ∃ k : Nat, k ≤ K ∧ i = .int .i64 k ∧ J (rkL B k) wr ∧ KeepS S W wr) (fun i _ => K - (intOf i).toNat)
  case atStart => exact ⟨0, Nat.zero_le _, rfl, h0, KeepS.refl _ _⟩
  case round =>
    obtain ⟨k, hk, rfl, hJk, hkp⟩ := hrel
    have HJk := Lib.hid hJk
    clear hJk
    by_cases hlt : k < K
    · have d1 : wr.cell? ⟨Bs, 0, none⟩ = some (.int .i64 n) := (hkp.cellG h1).trans c1
      have d2 : wr.cell? ⟨Bw, 0, none⟩ = some (.func (.func 75) #[] #[.pointer (some ⟨Bz, 0, none⟩), .pointer (some ⟨Br, 0, none⟩), .pointer (some ⟨Bc, 0, none⟩)]) := (hkp.cellG h2).trans c2
      have d3 : wr.cell? ⟨Bz, 0, none⟩ = some (.int .i64 n) := (hkp.cellG h3).trans c3
      have d4 : wr.cell? ⟨Br, 0, none⟩ = some (.int .i64 R) := (hkp.cellG h4).trans c4
      have d5 : wr.cell? ⟨Bc, 0, none⟩ = some (.int .i64 C) := (hkp.cellG h5).trans c5
      have e0 : (0 : Int) ≤ (k : Int) := by omega
      have e1 : (k : Int) < (K : Int) := by omega
      have HPk := Lib.hid (HP.out k)
      have HSk := Lib.hid (HSZ.out k)
      have HOk := Lib.hid (HONE.out k)
      have HTk := Lib.hid (HST.out k)
      have hWk := HW.out k hlt wr d3 d4 d5
      have HWk := Lib.hid hWk
      have HYk := Lib.hid (fun W1 h => HY.out (rkL B k) k W1 h (Nat.lt_of_le_of_lt (HLEN.out k) hlt))
      obtain ⟨Z, hZ⟩ : ∃ Z, Z = pqG R C k := ⟨_, rfl⟩
      obtain ⟨b, hb⟩ : ∃ b, b = B k := ⟨_, rfl⟩
      rw [← hZ] at HPk HSk HOk HYk HWk
      rw [← hb] at HPk HTk
      have hI1 : (Try.prog.info? 53).map (·.size) = some Z.size := by rw [HSk.out]; exact infoGr
      have HI1 := Lib.hid hI1
      have HBT := Lib.hid hb
      clear hWk hZ hb hI1
      gi_wp2_with fail
      refine ⟨trivial, (callsIn_wide.2 HWk.out).mono ?_⟩
      rintro e w2 ⟨rfl, hb2⟩
      have HB2 := Lib.hid hb2
      clear hb2
      gi_wp2_with (first
        | (refine inAlloc rfl 53 rfl (grA G0 0 0) ZZ.out ?_)
        | (refine inStoreBig rfl 53 (.tmp 5) (.tmp 14) rfl w2.heap.size Z rfl rfl 53 _ (heap_alloc_new w2 _) 66 infoGr HSk.out (grA_size _ _ _) HOk.out w2.heap.size w2 (belowa (Below.refl _ _) _) (Nat.le_refl _) ?_; intro w3 hg3 ho3 hz3 hb3; have HG3 := Lib.hid hg3; have HB3 := Lib.hid (joins HB2.out hb3); have HZ3 := Lib.hid hz3; clear hg3 ho3 hz3 hb3)
        | (refine inLoadRow rfl 53 (.tmp 5) rfl w2.heap.size rfl 53 Z (0, 0) _ HG3.out Try.underlying53 rfl HI1.out ?_))
      refine ⟨trivial, (callsIn_wide.2 (HPk.out _)).mono ?_⟩
      rintro e w4 ⟨rfl, hb4⟩
      have hG4 : w4.heap[w2.heap.size]? = some (.cells Z 53 (0, 0)) := (hb4.block w2.heap.size (Array.getElem?_eq_some_iff.1 HG3.out).1).trans HG3.out
      have HG4 := Lib.hid hG4
      have HB4 := Lib.hid (joins HB3.out hb4)
      have HJ4 := Lib.hid (abides hJ HB4.out HJk.out)
      have HK4 := Lib.hid (keepS_t hkp (KeepS.below (fun q hq => (Array.getElem?_eq_some_iff.1 ((hkp q hq).trans (Array.getElem?_eq_getElem (Nat.lt_of_lt_of_le (HBIG.out q hq) hW.size)))).1) HB4.out))
      clear hb4 hG4
      cases b with
      | true =>
        obtain ⟨fn, tmps, assign, body, hy, hR⟩ := HYk.out w4 HJ4.out
        gi_wp2_with (refine inLoadRowW rfl 53 (.tmp 5) rfl w2.heap.size rfl 53 Z (0, 0) _ HG4.out Try.underlying53 rfl HI1.out ?_)
        refine hR.mono ?_
        rintro e w5 (⟨rfl, hJ5, hk5⟩ | ⟨rfl, hJx5⟩)
        · gi_wp2_with fail
          go_roundw
          case rel => exact ⟨k + 1, by omega, by go_num, by rw [HTk.out, if_pos trivial]; exact hJ5, keepS_t HK4.out hk5⟩
          case measure => simp [intOf]; omega
        · gi_wp2_with fail
          refine bodyPost_ret (results_none rfl _ _ _) rfl ?_
          exact ⟨⟨_, rfl⟩, .inr ⟨_, ⟨k, hlt, HBT.out.symm, by rw [HTk.out, if_pos trivial]⟩, hJx5⟩⟩
      | false =>
        gi_wp2_with fail
        refine ⟨fun _ h => (by cases h), ?_⟩
        gi_wp2_with fail
        go_roundw
        case rel => exact ⟨k + 1, by omega, by go_num, by rw [HTk.out]; exact HJ4.out, HK4.out⟩
        case measure => simp [intOf]; omega
    · obtain rfl : k = K := by omega
      have e1 : (k : Int) ≤ (k : Int) := Int.le_refl _
      gi_wp2
      go_end0
      exact ⟨⟨_, rfl⟩, .inl ⟨_, rfl, HJk.out⟩⟩
set_option maxRecDepth 100000 in
set_option maxHeartbeats 2000000 in
theorem countPa_any (R C : Nat) (hR : 1 ≤ R ∧ R ≤ 6) (hC : 1 ≤ C ∧ C ≤ 6) (hN : R * C ≤ 6) (Bs Bw Bz Br Bc : Nat) (w : World) (h1 : Bs < w.heap.size) (h2 : Bw < w.heap.size) (h3 : Bz < w.heap.size) (h4 : Br < w.heap.size) (h5 : Bc < w.heap.size)
    (c1 : w.cell? ⟨Bs, 0, none⟩ = some (.int .i64 (R * C : Nat))) (c2 : w.cell? ⟨Bw, 0, none⟩ = some (.func (.func 75) #[] #[.pointer (some ⟨Bz, 0, none⟩), .pointer (some ⟨Br, 0, none⟩), .pointer (some ⟨Bc, 0, none⟩)])) (c3 : w.cell? ⟨Bz, 0, none⟩ = some (.int .i64 (R * C : Nat))) (c4 : w.cell? ⟨Br, 0, none⟩ = some (.int .i64 R)) (c5 : w.cell? ⟨Bc, 0, none⟩ = some (.int .i64 C)) :
    Calls Try.prog 55 #[.func (.func 79) #[] #[.pointer (some ⟨Bs, 0, none⟩), .pointer (some ⟨Bw, 0, none⟩)]] w (Ret w (.int .i64 (rkL (pqB R C) (pow4' (R * C))).length)) := by
  obtain ⟨S, hS⟩ : ∃ S : Nat → Prop, S = fun k => k = Bs ∨ k = Bw ∨ k = Bz ∨ k = Br ∨ k = Bc := ⟨_, rfl⟩
  have hlt : ∀ k, S k → k < w.heap.size := fun k hk => by rw [hS] at hk; rcases hk with rfl | rfl | rfl | rfl | rfl <;> assumption
  have s1 : S Bs := by rw [hS]; exact .inl rfl
  have s2 : S Bw := by rw [hS]; exact .inr (.inl rfl)
  have s3 : S Bz := by rw [hS]; exact .inr (.inr (.inl rfl))
  have s4 : S Br := by rw [hS]; exact .inr (.inr (.inr (.inl rfl)))
  have s5 : S Bc := by rw [hS]; exact .inr (.inr (.inr (.inr rfl)))
  have hp := pow4_le' (R * C) (by omega)
  have hq := Lib.hid (perfectOfG1 2 (by omega) R C hR hC hN Bs Bw Bz Br Bc S s1 s2 s3 s4 s5 (w.alloc (.cells #[Value.int .i64 0] 3)) (fun k hk => by have := hlt k hk; simp; omega) (cell_oG _ c1) (cell_oG _ c2) (cell_oG _ c3) (cell_oG _ c4) (cell_oG _ c5))
  clear hS
  refine (callsIn_wide (n := 3)).1 ?_
  refine callsIn_of_wp_marks Try.func55 rfl trivial ?_ rfl
  simp only [Try.ntmps55, List.size_toArray, List.length_cons, List.length_nil, Nat.reduceAdd, Nat.reduceSub, Array.replicate_succ, Array.replicate_zero, List.push_toArray, List.append_toArray, List.nil_append, List.cons_append]
  gi_wp2
  have bS := Boxed.new w 3 (.int .i64 0)
  refine wpIn_rangeFunc_ownG rfl (by omega) (gf := 79) (lb := #[.pointer (some ⟨Bs, 0, none⟩), .pointer (some ⟨Bw, 0, none⟩)]) rfl trivial (enters_of Try.func79 (by kernel_rfl) rfl)
    hq.out keepS_t (keepS_b (fun k hk => by have := hlt k hk; simp; omega)) (Below.refl _ _) (fun _ => rfl)
    (fun pre W => Boxed W w.heap.size 3 (.int .i64 (pre.length : Nat)) ∧ Below w.heap.size w W)
    (fun _ _ _ => False)
    (OwnFrom.and (Own.from (boxed_own _ _ _) _) (ownFrom_below (Nat.le_refl _) (by simp)))
    (fun _ _ _ _ _ hs _ _ => hs)
    ⟨bS, (Below.refl _ w).alloc (Nat.le_refl _) _⟩
    (fun x => { tmps := #[.func (.func 79) #[] #[.pointer (some ⟨Bs, 0, none⟩), .pointer (some ⟨Bw, 0, none⟩)], undef, .int .i64 0, .pointer (some ⟨w.heap.size, 0, none⟩), .func (.func 79) #[] #[.pointer (some ⟨Bs, 0, none⟩), .pointer (some ⟨Bw, 0, none⟩)], .agg (pqG R C x), undef, undef, undef], defers := [] }) ?assign ?body ?done ?stop
  case assign =>
    intro l x W K hK
    gi_wp2
    simpa using hK
  case body =>
    rintro l pre x W ⟨hc, hB⟩ hlen
    have cc := hc.cell
    have cf := hc.frozen
    have hl2 : (pre.length : Int) ≤ 65536 := by omega
    gi_wp2
    exact ⟨(KeepsOthers.setCell _ _ _).from _, KeepS.below hlt ((Below.refl _ W).setCell (p := ⟨w.heap.size, 0, none⟩) (Nat.le_refl _) _), by
      have := hc.set (.int .i64 ((pre ++ [x]).length : Nat))
      simpa using this, hB.setCell (p := ⟨w.heap.size, 0, none⟩) (Nat.le_refl _) _⟩
  case done =>
    rintro D xs W hD rfl ⟨hc, hB⟩ hK
    have cc := hc.cell
    gi_wp2
    refine ⟨by simp, .inl ⟨_, _, rfl, run_takeDeferred hK, ?_⟩⟩
    exact ⟨_, results_tmp rfl _ _ _, rfl, hB.trans (belowK_b (w := w) (Nat.le_refl _) W D _ _ (by simp at hD; omega) hK rfl rfl)⟩
  case stop =>
    rintro D c pre W _ _ h _
    exact h.elim

set_option maxHeartbeats 1000000 in
theorem perfectOfG_any (n : Nat) (Bz Br Bc : Nat) (w : World) : Calls Try.prog 74 #[.int .i64 n, .func (.func 75) #[] #[.pointer (some ⟨Bz, 0, none⟩), .pointer (some ⟨Br, 0, none⟩), .pointer (some ⟨Bc, 0, none⟩)]] w
    fun e w' => e = .returned (.func (.func 79) #[] #[.pointer (some ⟨w.heap.size, 0, none⟩), .pointer (some ⟨w.heap.size + 1, 0, none⟩)]) ∧
      w'.cell? ⟨w.heap.size, 0, none⟩ = some (.int .i64 n) ∧ w'.cell? ⟨w.heap.size + 1, 0, none⟩ = some (.func (.func 75) #[] #[.pointer (some ⟨Bz, 0, none⟩), .pointer (some ⟨Br, 0, none⟩), .pointer (some ⟨Bc, 0, none⟩)]) ∧ w'.heap.size = w.heap.size + 2 ∧ Below w.heap.size w w' := by
  go_enter Try.func74, Try.ntmps74
  go_wp2_with fail
  go_returns
  refine ⟨rfl, cell_oG _ (cell_nG _ _ _), ?_, by simp, by go_grown⟩
  have := cell_nG (w.alloc (.cells #[Value.int .i64 n] 3)) (.func (.func 75) #[] #[.pointer (some ⟨Bz, 0, none⟩), .pointer (some ⟨Br, 0, none⟩), .pointer (some ⟨Bc, 0, none⟩)])
  rw [World.size_alloc] at this
  exact this _

/-- A search's value: its boxes were made since. -/
def PaMade (R C : Nat) (w : World) (e : Ending) (w' : World) : Prop := ∃ Bs Bw Bz Br Bc : Nat,
  e = .returned (.func (.func 79) #[] #[.pointer (some ⟨Bs, 0, none⟩), .pointer (some ⟨Bw, 0, none⟩)]) ∧
  (Bs < w'.heap.size ∧ Bw < w'.heap.size ∧ Bz < w'.heap.size ∧ Br < w'.heap.size ∧ Bc < w'.heap.size) ∧
  w'.cell? ⟨Bs, 0, none⟩ = some (.int .i64 (R * C : Nat)) ∧ w'.cell? ⟨Bw, 0, none⟩ = some (.func (.func 75) #[] #[.pointer (some ⟨Bz, 0, none⟩), .pointer (some ⟨Br, 0, none⟩), .pointer (some ⟨Bc, 0, none⟩)]) ∧ w'.cell? ⟨Bz, 0, none⟩ = some (.int .i64 (R * C : Nat)) ∧
  w'.cell? ⟨Br, 0, none⟩ = some (.int .i64 R) ∧ w'.cell? ⟨Bc, 0, none⟩ = some (.int .i64 C) ∧ Below w.heap.size w w'

set_option maxHeartbeats 1000000 in
theorem perfectArrays_any (R C : Nat) (hN : R * C ≤ 6) (w : World) : Calls Try.prog 56 #[.int .i64 R, .int .i64 C] w (PaMade R C w) := by
  obtain ⟨n, hn⟩ : ∃ n, n = R * C := ⟨_, rfl⟩
  have e1 : (R : Int) * (C : Int) = (n : Int) := by rw [hn]; push_cast; rfl
  have e2 : n ≤ 6 := by rw [hn]; exact hN
  unfold PaMade
  rw [← hn]
  have HP := Lib.hid (fun Bz Br Bc w' => perfectOfG_any n Bz Br Bc w')
  clear hn hN
  have bR := Boxed.new w 3 (.int .i64 R)
  have bC := Boxed.new (w.alloc (.cells #[.int .i64 R] 3)) 3 (.int .i64 C)
  rw [World.size_alloc] at bC
  have bZ := Boxed.new ((w.alloc (.cells #[.int .i64 R] 3)).alloc (.cells #[.int .i64 C] 3)) 3 (.int .i64 n)
  rw [World.size_alloc, World.size_alloc] at bZ
  have kR := ((bR.alloc (.cells #[.int .i64 C] 3)).alloc (.cells #[.int .i64 n] 3)).cell
  have kC := (bC.alloc (.cells #[.int .i64 n] 3)).cell
  have kZ := bZ.cell
  clear bR bC bZ
  go_enter Try.func56, Try.ntmps56
  go_wp2_with fail
  refine (HP.out _ _ _ _).mono ?_
  rintro e w1 ⟨rfl, h1, h2, h3, hb⟩
  simp only [World.size_alloc] at h1 h2 h3
  have HB := Lib.hid hb
  have H1 := Lib.hid h1
  have H2 := Lib.hid h2
  have H3 := Lib.hid h3
  have HR := Lib.hid (keepc hb kR)
  have HC := Lib.hid (keepc hb kC)
  have HZ := Lib.hid (keepc hb kZ)
  clear hb h1 h2 h3 kR kC kZ
  go_wp2_with fail
  go_returns
  refine ⟨w.heap.size + 1 + 1 + 1, w.heap.size + 1 + 1 + 1 + 1, w.heap.size + 1 + 1, w.heap.size, w.heap.size + 1, by simp, by have := H3.out; omega, H1.out, H2.out, HZ.out, HR.out, HC.out, joins (belowa (belowa (belowa (Below.refl _ _) _) _) _) HB.out⟩

theorem isSearchedG (n : Int) (w : World) : Calls Try.prog 54 #[.int .i64 n] w (Pure w (.bool (small6 n))) := by
  go_enter Try.func54, Try.ntmps54
  go_wp2
  all_goals
    go_returns
    exact ⟨ret_bool (by unfold small6; simp <;> omega), rfl⟩

set_option maxHeartbeats 2000000 in
theorem icountPerfectArrays (a b : Int) (w : World) : Calls Try.prog 28 #[.int .i64 a, .int .i64 b] w (Ret w (.tuple #[.int .i64 (caC a b), .bool (caOk a b)])) := by
  have HC := Lib.hid isSearchedG
  by_cases ha : 1 ≤ a ∧ a ≤ 6
  · by_cases hb : 1 ≤ b ∧ b ≤ 6
    · obtain ⟨R, rfl⟩ := Int.eq_ofNat_of_zero_le (show 0 ≤ a by omega)
      obtain ⟨C, rfl⟩ := Int.eq_ofNat_of_zero_le (show 0 ≤ b by omega)
      have hR : 1 ≤ R ∧ R ≤ 6 := by omega
      have hCC : 1 ≤ C ∧ C ≤ 6 := by omega
      obtain ⟨n, hn⟩ : ∃ n, n = R * C := ⟨_, rfl⟩
      have e1 : (R : Int) * (C : Int) = (n : Int) := by rw [hn]; push_cast; rfl
      have e2 : n ≤ 36 := by rw [hn]; exact Nat.mul_le_mul hR.2 hCC.2
      have e3 : 1 ≤ n := by rw [hn]; exact Nat.mul_le_mul hR.1 hCC.1
      have H1 := Lib.hid (HC.out R)
      have H2 := Lib.hid (HC.out C)
      have H3 := Lib.hid (HC.out n)
      rw [show small6 R = true from decide_eq_true ha] at H1
      rw [show small6 C = true from decide_eq_true hb] at H2
      by_cases h6 : n ≤ 6
      · rw [show small6 n = true from decide_eq_true (by omega)] at H3
        have hok : caOk R C = true := by rw [caOk_nat, decide_eq_true hR, decide_eq_true hCC, decide_eq_true (show R * C ≤ 6 by omega)]; rfl
        have hc : caC R C = (rkL (pqB R C) (pow4' (R * C))).length := by unfold caC; rw [hok]; rfl
        rw [hok, hc]
        have HA := Lib.hid (fun w => perfectArrays_any R C (by omega) w)
        have HK := Lib.hid (fun Bs Bw Bz Br Bc w h1 h2 h3 h4 h5 c1 c2 c3 c4 c5 => countPa_any R C hR hCC (by omega) Bs Bw Bz Br Bc w h1 h2 h3 h4 h5 c1 c2 c3 c4 c5)
        obtain ⟨L, hL⟩ : ∃ L, L = (rkL (pqB R C) (pow4' (R * C))).length := ⟨_, rfl⟩
        rw [← hL] at HK ⊢
        clear hL hc hok hn ha hb hR hCC HC
        go_enter Try.func28, Try.ntmps28
        go_wp2_with fail
        refine (H1.out _).mono ?_
        rintro e w1 ⟨rfl, rfl⟩
        go_wp2_with fail
        refine (H2.out _).mono ?_
        rintro e w1 ⟨rfl, rfl⟩
        go_wp2_with fail
        refine (H3.out _).mono ?_
        rintro e w1 ⟨rfl, rfl⟩
        go_wp2_with fail
        refine (HA.out _).mono ?_
        rintro e w2 ⟨Bs, Bw, Bz, Br, Bc, rfl, ⟨h1, h2, h3, h4, h5⟩, c1, c2, c3, c4, c5, hbe⟩
        have HK2 := Lib.hid (HK.out Bs Bw Bz Br Bc _ h1 h2 h3 h4 h5 c1 c2 c3 c4 c5)
        have HBE := Lib.hid hbe
        clear h1 h2 h3 h4 h5 c1 c2 c3 c4 c5 hbe
        go_wp2_with fail
        refine (HK2.out).mono ?_
        rintro e w3 ⟨rfl, hb3⟩
        have HB3 := Lib.hid (joins HBE.out hb3)
        clear hb3
        go_wp2_with fail
        go_returns
        exact ⟨rfl, HB3.out⟩
      · rw [show small6 n = false from decide_eq_false (by omega)] at H3
        have hok : caOk R C = false := by rw [caOk_nat, decide_eq_false (show ¬ R * C ≤ 6 by omega)]; simp
        have hc : caC R C = 0 := by unfold caC; rw [hok]; rfl
        rw [hok, hc]
        clear hc hok hn ha hb hR hCC HC
        go_enter Try.func28, Try.ntmps28
        go_wp2_with fail
        refine (H1.out _).mono ?_
        rintro e w1 ⟨rfl, rfl⟩
        go_wp2_with fail
        refine (H2.out _).mono ?_
        rintro e w1 ⟨rfl, rfl⟩
        go_wp2_with fail
        refine (H3.out _).mono ?_
        rintro e w1 ⟨rfl, rfl⟩
        go_wp2_with fail
        go_returns
        exact ⟨rfl, by go_grown⟩
    · have H1 := Lib.hid (HC.out a)
      have H2 := Lib.hid (HC.out b)
      rw [show small6 a = true from decide_eq_true ha] at H1
      rw [show small6 b = false from decide_eq_false hb] at H2
      have hok : caOk a b = false := by unfold caOk; rw [decide_eq_false hb]; simp
      have hc : caC a b = 0 := by unfold caC; rw [hok]; rfl
      rw [hok, hc]
      clear hc hok ha hb HC
      go_enter Try.func28, Try.ntmps28
      go_wp2_with fail
      refine (H1.out _).mono ?_
      rintro e w1 ⟨rfl, rfl⟩
      go_wp2_with fail
      refine (H2.out _).mono ?_
      rintro e w1 ⟨rfl, rfl⟩
      go_wp2_with fail
      go_returns
      exact ⟨rfl, by go_grown⟩
  · have H1 := Lib.hid (HC.out a)
    rw [show small6 a = false from decide_eq_false ha] at H1
    have hok : caOk a b = false := by unfold caOk; rw [decide_eq_false ha]; rfl
    have hc : caC a b = 0 := by unfold caC; rw [hok]; rfl
    rw [hok, hc]
    clear hc hok ha HC
    go_enter Try.func28, Try.ntmps28
    go_wp2_with fail
    refine (H1.out _).mono ?_
    rintro e w1 ⟨rfl, rfl⟩
    go_wp2_with fail
    go_returns
    exact ⟨rfl, by go_grown⟩
end Go.Proofs.Ytjoepdflbbcliab
