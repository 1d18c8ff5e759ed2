/- The program's search for perfect sequences: its iterator's contract. -/
import Derived.Test.YtjoepdflbbcliaaIW8
import Derived.Test.YtjoepdflbbcliaaIPf
namespace Go.Proofs.Ytjoepdflbbcliaa
set_option maxRecDepth 100000
open Go.RowKit
attribute [local go_sem] Oper.semAt_some

theorem KeepS.cell {S : Nat → Prop} {A B : World} (h : KeepS S A B) {b o : Nat} (hb : S b) : B.cell? ⟨b, o, none⟩ = A.cell? ⟨b, o, none⟩ := by simp [World.cell?, h b hb]
theorem meth_ph (fuel : Nat) (C : Array Value) (w : World) : (method (fuel + 1) 47 (.agg C) "loop.example/g01177/impl.isPerfect").run Try.prog w = .ok (36, .agg C) w := by kernel_rfl
attribute [local go_sem] meth_ph
def pcD (N r : Nat) : Array Value := phA (padL (lowD (r : Int) N)) N

set_option maxRecDepth 100000 in
set_option maxHeartbeats 4000000 in
theorem perfectOf1 (m : Nat) (hm : 1 ≤ m) (N : Nat) (hN : N ≤ 8) (Bs Bw Bn : Nat) (S : Nat → Prop) (h1 : S Bs) (h2 : S Bw) (h3 : S Bn) (w : World) (hS : ∀ k, S k → k < w.heap.size)
    (c1 : w.cell? ⟨Bs, 0, none⟩ = some (.int .i64 N)) (c2 : w.cell? ⟨Bw, 0, none⟩ = some (.func (.func 60) #[] #[.pointer (some ⟨Bn, 0, none⟩)])) (c3 : w.cell? ⟨Bn, 0, none⟩ = some (.int .i64 N)) :
    SeqStopsK Fence.wide m Try.prog 70 #[.pointer (some ⟨Bs, 0, none⟩), .pointer (some ⟨Bw, 0, none⟩)] (fun r : Nat => #[Value.agg (pcD N r)]) (KeepS S)
      (fun xs => xs = pcH N) (fun pre => ∃ k, k < pow4' N ∧ pcB N k = true ∧ pre = rkL (pcB N) (k + 1)) (pow4' N) w := fun l J Jx W hW hJ hJx hY h0 => by
  have hKW : KeepS S w W := KeepS.below hS hW
  rw [← hKW.cell h1] at c1
  rw [← hKW.cell h2] at c2
  rw [← hKW.cell h3] at c3
  have HW := Lib.hid (fun (k : Nat) (hk : k < pow4' N) w' (hb : w'.cell? ⟨Bn, 0, none⟩ = some (.int .i64 N)) => psWith N hN Bn k hk w' hb)
  have HP := Lib.hid (fun (k : Nat) w' => show Calls Try.prog 36 #[.agg (pcD N k)] w' (Ret w' (.bool (pcB N k))) by
    have := isPerfect_any (lowD k N) (low_seq k N (by omega)) w'
    rwa [lowD_length] at this)
  have HSZ := Lib.hid (fun k => show (pcD N k).size = 33 from phA_size _ _ (padL_length (by rw [lowD_length]; omega)))
  have HONE := Lib.hid (fun k => show (pcD N k).all (·.oneCell') = true from phA_one _ _)
  have HST := Lib.hid (fun k => show rkL (pcB N) (k + 1) = if pcB N k then rkL (pcB N) k ++ [k] else rkL (pcB N) k from rfl)
  have hp := pow4_le' N hN
  have hsh := shl_eq' N hN
  have HLEN := Lib.hid (rkL_len (pcB N))
  have HWD := Lib.hid (fun k => show phA (padL (lowD (k : Nat) N)) N = pcD N k from rfl)
  have HBIG := Lib.hid hS
  unfold pcH
  obtain ⟨B, hB⟩ : ∃ B, B = pcB N := ⟨_, rfl⟩
  obtain ⟨K, hK⟩ : ∃ K, K = pow4' N := ⟨_, rfl⟩
  rw [← hK] at HW hp hsh hY ⊢
  rw [← hB] at HP HST HLEN ⊢
  have HY := Lib.hid hY
  clear hB hK hY hS
  refine callsIn_of_wp Try.func70 rfl trivial ?_ rfl
  simp only [Try.ntmps70, List.size_toArray, List.length_cons, List.length_nil, Nat.reduceAdd, Nat.reduceSub, Array.replicate_succ, Array.replicate_zero, List.push_toArray, List.append_toArray, List.nil_append, List.cons_append]
  gi_wp2
  gi_loopw [9] (fun i wr => ∃ k : Nat, k ≤ K ∧ i = .int .i64 k ∧ J (rkL B k) wr ∧ KeepS S W wr) (fun i _ => K - (intOf i).toNat)
  case atStart => exact ⟨0, Nat.zero_le _, rfl, h0, KeepS.refl _ _⟩
  case round =>
    obtain ⟨k, hk, rfl, hJk, hkp⟩ := hrel
    have HJk := Lib.hid hJk
    clear hJk
    by_cases hlt : k < K
    · have d1 : wr.cell? ⟨Bs, 0, none⟩ = some (.int .i64 N) := (hkp.cell h1).trans c1
      have d2 : wr.cell? ⟨Bw, 0, none⟩ = some (.func (.func 60) #[] #[.pointer (some ⟨Bn, 0, none⟩)]) := (hkp.cell h2).trans c2
      have d3 : wr.cell? ⟨Bn, 0, none⟩ = some (.int .i64 N) := (hkp.cell h3).trans c3
      have e0 : (0 : Int) ≤ (k : Int) := by omega
      have e1 : (k : Int) < (K : Int) := by omega
      have HPk := Lib.hid (HP.out k)
      have HSk := Lib.hid (HSZ.out k)
      have HOk := Lib.hid (HONE.out k)
      have HTk := Lib.hid (HST.out k)
      have hWk := HW.out k hlt wr d3
      rw [HWD.out k] at hWk
      have HWk := Lib.hid hWk
      have HYk := Lib.hid (fun W1 h => HY.out (rkL B k) k W1 h (Nat.lt_of_le_of_lt (HLEN.out k) hlt))
      obtain ⟨C, hC⟩ : ∃ C, C = pcD N k := ⟨_, rfl⟩
      obtain ⟨b, hb⟩ : ∃ b, b = B k := ⟨_, rfl⟩
      rw [← hC] at HPk HSk HOk HYk HWk
      rw [← hb] at HPk HTk
      have hI1 : (Try.prog.info? 47).map (·.size) = some C.size := by rw [HSk.out]; exact infoPh
      have HI1 := Lib.hid hI1
      have HBT := Lib.hid hb
      clear hWk hC hb hI1
      gi_wp2_with fail
      refine ⟨trivial, (callsIn_wide.2 HWk.out).mono ?_⟩
      rintro e w2 ⟨rfl, hb2⟩
      have HB2 := Lib.hid hb2
      clear hb2
      gi_wp2_with (first
        | (refine inAlloc rfl 47 rfl (phA z32 0) zeroPh ?_)
        | (refine inStoreBig rfl 47 (.tmp 5) (.tmp 14) rfl w2.heap.size C rfl rfl 47 _ (heap_alloc_new w2 _) 33 infoPh HSk.out (phA_size _ _ z32_length) HOk.out w2.heap.size w2 (belowa (Below.refl _ _) _) (Nat.le_refl _) ?_; intro w3 hg3 ho3 hz3 hb3; have HG3 := Lib.hid hg3; have HB3 := Lib.hid (joins HB2.out hb3); have HZ3 := Lib.hid hz3; clear hg3 ho3 hz3 hb3)
        | (refine inLoadRow rfl 47 (.tmp 5) rfl w2.heap.size rfl 47 C (0, 0) _ HG3.out Try.underlying47 rfl HI1.out ?_))
      refine ⟨trivial, (callsIn_wide.2 (HPk.out _)).mono ?_⟩
      rintro e w4 ⟨rfl, hb4⟩
      have hG4 : w4.heap[w2.heap.size]? = some (.cells C 47 (0, 0)) := (hb4.block w2.heap.size (Array.getElem?_eq_some_iff.1 HG3.out).1).trans HG3.out
      have HG4 := Lib.hid hG4
      have HB4 := Lib.hid (joins HB3.out hb4)
      have HJ4 := Lib.hid (abides hJ HB4.out HJk.out)
      have HK4 := Lib.hid (keepS_t hkp (KeepS.below (fun q hq => (Array.getElem?_eq_some_iff.1 ((hkp q hq).trans (Array.getElem?_eq_getElem (Nat.lt_of_lt_of_le (HBIG.out q hq) hW.size)))).1) HB4.out))
      clear hb4 hG4
      cases b with
      | true =>
        obtain ⟨fn, tmps, assign, body, hy, hR⟩ := HYk.out w4 HJ4.out
        gi_wp2_with (refine inLoadRowW rfl 47 (.tmp 5) rfl w2.heap.size rfl 47 C (0, 0) _ HG4.out Try.underlying47 rfl HI1.out ?_)
        refine hR.mono ?_
        rintro e w5 (⟨rfl, hJ5, hk5⟩ | ⟨rfl, hJx5⟩)
        · gi_wp2_with fail
          go_roundw
          case rel => exact ⟨k + 1, by omega, by go_num, by rw [HTk.out, if_pos trivial]; exact hJ5, keepS_t HK4.out hk5⟩
          case measure => simp [intOf]; omega
        · gi_wp2_with fail
          refine bodyPost_ret (results_none rfl _ _ _) rfl ?_
          exact ⟨⟨_, rfl⟩, .inr ⟨_, ⟨k, hlt, HBT.out.symm, by rw [HTk.out, if_pos trivial]⟩, hJx5⟩⟩
      | false =>
        gi_wp2_with fail
        refine ⟨fun _ h => (by cases h), ?_⟩
        gi_wp2_with fail
        go_roundw
        case rel => exact ⟨k + 1, by omega, by go_num, by rw [HTk.out]; exact HJ4.out, HK4.out⟩
        case measure => simp [intOf]; omega
    · obtain rfl : k = K := by omega
      have e1 : (k : Int) ≤ (k : Int) := Int.le_refl _
      gi_wp2
      go_end0
      exact ⟨⟨_, rfl⟩, .inl ⟨_, rfl, HJk.out⟩⟩
end Go.Proofs.Ytjoepdflbbcliaa
