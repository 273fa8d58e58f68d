/- slot's reference: a key's row. -/
import Derived.Test.YtcfnhilcpfiocaaSub
namespace Go.Proofs.Ytcfnhilcpfiocaa
open Go.RowKit Go.Shelf Go.ChangeMaps Go.MapKept

theorem eqWs (n m : Nat) (hn : n < MM) (hm : m < MM) (w : World) : (binOp .eql 25 (W n) (W m)).run Try.prog w = .ok (.bool (n == m)) w := by
  rw [run_eql_struct, show (10000 : Nat) = 9998 + 1 + 1 from rfl, equalIn_word, all4 n m hn hm]; rfl
theorem info_row : (Try.prog.info? 59).map (·.size) = some 14 := by kernel_rfl
theorem ret_row {fn : Func} {p : Tmp} {tmps : Array Value} {X : World} {g : Nat} {r : Rw} (h : fn.results = #[.cell p 59]) (hp : tmps.getD p undef = .pointer (some ⟨g, 0, none⟩)) (hb : Blk X g 59 (rvA r)) : (results fn tmps).run Try.prog X = .ok (.agg (rvA r)) X :=
  results_cell_row h _ _ g 59 (rvA r) (0, 0) _ hp hb Try.underlying59 rfl (by rw [info_row]; rfl)
theorem fill14 {X : World} {R : Nat} {t : TypeId} (v0 v1 v2 v3 v4 v5 v6 v7 v8 v9 v10 v11 v12 v13 : Value) (h : Blk X R t #[.int .u64 0, .int .u64 0, .int .u64 0, .int .u64 0, .int .u64 0, .int .u64 0, .int .u64 0, .int .u64 0, .int .u64 0, .int .u64 0, .int .u64 0, .int .u64 0, .int .u64 0, .int .u64 0]) : Blk ((((((((((((((X.setCell ⟨R, 0, none⟩ v0).setCell ⟨R, 1, none⟩ v1).setCell ⟨R, 2, none⟩ v2).setCell ⟨R, 3, none⟩ v3).setCell ⟨R, 4, none⟩ v4).setCell ⟨R, 5, none⟩ v5).setCell ⟨R, 6, none⟩ v6).setCell ⟨R, 7, none⟩ v7).setCell ⟨R, 8, none⟩ v8).setCell ⟨R, 9, none⟩ v9).setCell ⟨R, 10, none⟩ v10).setCell ⟨R, 11, none⟩ v11).setCell ⟨R, 12, none⟩ v12).setCell ⟨R, 13, none⟩ v13) R t #[v0, v1, v2, v3, v4, v5, v6, v7, v8, v9, v10, v11, v12, v13] := by
  have h' := (heap_setCell_same _ _ 13 _ _ v13 (heap_setCell_same _ _ 12 _ _ v12 (heap_setCell_same _ _ 11 _ _ v11 (heap_setCell_same _ _ 10 _ _ v10 (heap_setCell_same _ _ 9 _ _ v9 (heap_setCell_same _ _ 8 _ _ v8 (heap_setCell_same _ _ 7 _ _ v7 (heap_setCell_same _ _ 6 _ _ v6 (heap_setCell_same _ _ 5 _ _ v5 (heap_setCell_same _ _ 4 _ _ v4 (heap_setCell_same _ _ 3 _ _ v3 (heap_setCell_same _ _ 2 _ _ v2 (heap_setCell_same _ _ 1 _ _ v1 (heap_setCell_same _ _ 0 _ _ v0 h))))))))))))))
  unfold Blk
  simpa only [List.setIfInBounds_toArray, List.set_cons_zero, List.set_cons_succ] using h'
set_option maxRecDepth 100000 in
set_option maxHeartbeats 2000000 in
theorem row_any (base : Nat) (v : Value) (l : List Rw) (n : Nat) (hn : n < MM) (w : World) (h : OwR w base v l) (hll : l.length ≤ 1000000) :
    Calls Try.prog 28 #[.agg #[v], W n] w fun e w' => e = .returned (.agg (rvA (rowN l n))) ∧ Below w.heap.size w w' := by
  obtain ⟨xl, cl, rfl⟩ := h.is
  obtain ⟨W1, hW1⟩ : ∃ W1, ((w.alloc (.cells #[.slice xl l.length cl] 31)).alloc (.cells (Wc n) 25)).alloc (.cells #[.int .u64 0, .int .u64 0, .int .u64 0, .int .u64 0, .int .u64 0, .int .u64 0, .int .u64 0, .int .u64 0, .int .u64 0, .int .u64 0, .int .u64 0, .int .u64 0, .int .u64 0, .int .u64 0] 59) = W1 := ⟨_, rfl⟩
  have hB : Below w.heap.size w W1 := by rw [← hW1]; exact balloc (balloc (balloc (Below.refl _ _) _) _) _
  have b0 : Blk W1 w.heap.size 31 #[.slice xl l.length cl] := by rw [← hW1]; exact ((Blk.new _ _ _).alloc _).alloc _
  have b1 : Blk W1 (w.heap.size + 1) 25 (Wc n) := by rw [← hW1]; exact (Blk.newS _ _ _ _).alloc _
  have b2 : Blk W1 (w.heap.size + 1 + 1) 59 #[.int .u64 0, .int .u64 0, .int .u64 0, .int .u64 0, .int .u64 0, .int .u64 0, .int .u64 0, .int .u64 0, .int .u64 0, .int .u64 0, .int .u64 0, .int .u64 0, .int .u64 0, .int .u64 0] := by rw [← hW1]; have := Blk.newS (w.alloc (.cells #[.slice xl l.length cl] 31)) (.cells (Wc n) 25) 59 #[.int .u64 0, .int .u64 0, .int .u64 0, .int .u64 0, .int .u64 0, .int .u64 0, .int .u64 0, .int .u64 0, .int .u64 0, .int .u64 0, .int .u64 0, .int .u64 0, .int .u64 0, .int .u64 0]; simpa using this
  have hO := h.keep hB
  have HW := Lib.hid hW1
  obtain ⟨N, hN⟩ : ∃ N, l.length = N := ⟨_, rfl⟩
  have HN := Lib.hid hN
  have sK : ∀ w', Below W1.heap.size W1 w' → w'.cell? ⟨w.heap.size, 0, none⟩ = some (.slice xl N cl) := fun w' q => by rw [← HN.out]; exact cell_of_row _ _ 0 _ _ _ (b0.keep q)
  have k0 : ∀ w', Below W1.heap.size W1 w' → w'.cell? ⟨w.heap.size + 1, 0, none⟩ = some (.int .u64 (lb n 0)) := fun w' q => cell_of_row _ _ 0 _ _ _ (b1.keep q)
  have k1 : ∀ w', Below W1.heap.size W1 w' → w'.cell? ⟨w.heap.size + 1, 1, none⟩ = some (.int .u64 (lb n 1)) := fun w' q => cell_of_row _ _ 1 _ _ _ (b1.keep q)
  have k2 : ∀ w', Below W1.heap.size W1 w' → w'.cell? ⟨w.heap.size + 1, 2, none⟩ = some (.int .u64 (lb n 2)) := fun w' q => cell_of_row _ _ 2 _ _ _ (b1.keep q)
  have k3 : ∀ w', Below W1.heap.size W1 w' → w'.cell? ⟨w.heap.size + 1, 3, none⟩ = some (.int .u64 (lb n 3)) := fun w' q => cell_of_row _ _ 3 _ _ _ (b1.keep q)
  have HA := Lib.hid (And.intro hO (And.intro hn (And.intro hB b2)))
  rw [hN] at hll ⊢
  clear h hB b0 b1 b2 hO hW1 hn hN
  go_enter Try.func28, Try.ntmps28
  go_upto_region 1 with fail
  have hW2 := HW.out
  rw [HN.out] at hW2
  rw [hW2]
  clear hW2
  go_wp2_with fail
  go_loopw [5] (fun i wr => ∃ k : Nat, i = .int .i64 k ∧ k ≤ N ∧ (∀ x ∈ l.take k, x.1 ≠ n) ∧ Below W1.heap.size W1 wr) (fun i _ => N - (intOf i).toNat)
  case atStart => exact ⟨0, rfl, Nat.zero_le _, fun x h => (by cases h), Below.refl _ _⟩
  case round =>
    obtain ⟨k, rfl, hk, hpre, hbl⟩ := hrel
    by_cases hlt : k < N
    · have hltI : (k : Int) < (N : Int) := by omega
      have hk0 : ¬ (k : Int) < 0 := by omega
      obtain ⟨r, hr⟩ : ∃ r, l[k]? = some r := ⟨_, List.getElem?_eq_getElem (by rw [HN.out]; exact hlt)⟩
      obtain ⟨b, o, c2, e, hbl1, hcell⟩ := HA.out.1.at hr
      injection e with e1 e2 e3
      subst e1
      have hcl : ∀ w', Below W1.heap.size W1 w' → ∀ j, j < 14 → w'.cell? ⟨b, o + k * 14 + j, none⟩ = (rvA r)[j]? := fun w' q j hj => (q.cell (p := ⟨b, o + k * 14 + j, none⟩) hbl1).trans (hcell j hj)
      have d0 : ∀ w', Below W1.heap.size W1 w' → w'.cell? ⟨b, o + k * 14, none⟩ = some (.int .u64 (lb r.1 0)) := fun w' q => hcl w' q 0 (by omega)
      have d1 : ∀ w', Below W1.heap.size W1 w' → w'.cell? ⟨b, o + k * 14 + 1, none⟩ = some (.int .u64 (lb r.1 1)) := fun w' q => hcl w' q 1 (by omega)
      have d2 : ∀ w', Below W1.heap.size W1 w' → w'.cell? ⟨b, o + k * 14 + 2, none⟩ = some (.int .u64 (lb r.1 2)) := fun w' q => hcl w' q 2 (by omega)
      have d3 : ∀ w', Below W1.heap.size W1 w' → w'.cell? ⟨b, o + k * 14 + 3, none⟩ = some (.int .u64 (lb r.1 3)) := fun w' q => hcl w' q 3 (by omega)
      have d4 : ∀ w', Below W1.heap.size W1 w' → w'.cell? ⟨b, o + k * 14 + 4, none⟩ = some (.int .u64 (lb r.2.1.1 0)) := fun w' q => hcl w' q 4 (by omega)
      have d5 : ∀ w', Below W1.heap.size W1 w' → w'.cell? ⟨b, o + k * 14 + 5, none⟩ = some (.int .u64 (lb r.2.1.1 1)) := fun w' q => hcl w' q 5 (by omega)
      have d6 : ∀ w', Below W1.heap.size W1 w' → w'.cell? ⟨b, o + k * 14 + 6, none⟩ = some (.int .u64 (lb r.2.1.1 2)) := fun w' q => hcl w' q 6 (by omega)
      have d7 : ∀ w', Below W1.heap.size W1 w' → w'.cell? ⟨b, o + k * 14 + 7, none⟩ = some (.int .u64 (lb r.2.1.1 3)) := fun w' q => hcl w' q 7 (by omega)
      have d8 : ∀ w', Below W1.heap.size W1 w' → w'.cell? ⟨b, o + k * 14 + 8, none⟩ = some (.int .u64 (r.2.1.2 : Nat)) := fun w' q => hcl w' q 8 (by omega)
      have d9 : ∀ w', Below W1.heap.size W1 w' → w'.cell? ⟨b, o + k * 14 + 9, none⟩ = some (.int .u64 (lb r.2.2.1 0)) := fun w' q => hcl w' q 9 (by omega)
      have d10 : ∀ w', Below W1.heap.size W1 w' → w'.cell? ⟨b, o + k * 14 + 10, none⟩ = some (.int .u64 (lb r.2.2.1 1)) := fun w' q => hcl w' q 10 (by omega)
      have d11 : ∀ w', Below W1.heap.size W1 w' → w'.cell? ⟨b, o + k * 14 + 11, none⟩ = some (.int .u64 (lb r.2.2.1 2)) := fun w' q => hcl w' q 11 (by omega)
      have d12 : ∀ w', Below W1.heap.size W1 w' → w'.cell? ⟨b, o + k * 14 + 12, none⟩ = some (.int .u64 (lb r.2.2.1 3)) := fun w' q => hcl w' q 12 (by omega)
      have d13 : ∀ w', Below W1.heap.size W1 w' → w'.cell? ⟨b, o + k * 14 + 13, none⟩ = some (.int .u64 (r.2.2.2 : Nat)) := fun w' q => hcl w' q 13 (by omega)
      have hd : Below W1.heap.size W1 wr.drew := below_drew' hbl
      have d0w := d0 wr hbl
      have d1w := d1 wr hbl
      have d2w := d2 wr hbl
      have d3w := d3 wr hbl
      have d4w := d4 wr hbl
      have d5w := d5 wr hbl
      have d6w := d6 wr hbl
      have d7w := d7 wr hbl
      have d8w := d8 wr hbl
      have d9w := d9 wr hbl
      have d10w := d10 wr hbl
      have d11w := d11 wr hbl
      have d12w := d12 wr hbl
      have d13w := d13 wr hbl
      have sKw := sK wr hbl
      have k0w := k0 wr hbl
      have k1w := k1 wr hbl
      have k2w := k2 wr hbl
      have k3w := k3 wr hbl
      have d0d := d0 wr.drew hd
      have d1d := d1 wr.drew hd
      have d2d := d2 wr.drew hd
      have d3d := d3 wr.drew hd
      have sKd := sK wr.drew hd
      have k0d := k0 wr.drew hd
      have k1d := k1 wr.drew hd
      have k2d := k2 wr.drew hd
      have k3d := k3 wr.drew hd
      have hok := HA.out.1.1 r (List.mem_of_getElem? hr)
      have he := fun w' => eqWs r.1 n hok.1 HA.out.2.1 w'
      have g1 : IntKind.i64.wrap ((k : Int) + 1) = ((k + 1 : Nat) : Int) := IntWalk.i64_in _ (by omega)
      have HR := Lib.hid (And.intro hr (And.intro hpre hbl))
      clear hcl hcell hr hpre hok hbl1 e2 e3
      by_cases hrn : r.1 = n
      · rw [show (r.1 == n) = true by simp [hrn]] at he
        have HRN := Lib.hid hrn
        clear hrn
        go_upto_region 4 with fail
        go_quiet (fail)
        obtain ⟨V, hVe⟩ : ∃ V, wr.drewN nq = V := ⟨_, rfl⟩
        have hV : Below W1.heap.size W1 V := by rw [← hVe]; exact below_drewN HR.out.2.2 _
        rw [hVe]
        clear hVe
        have b2 := HA.out.2.2.2.keep hV
        have h14 : HelN 14 59 W1 (w.heap.size + 1 + 1) V := HelN.call hV ⟨grown_refl W1 _, _, rfl, HA.out.2.2.2⟩
        have c0 := cell_of_row _ _ 0 _ _ _ b2
        have f0 := frozen_of_row _ _ 0 _ _ b2
        have c1 := cell_of_row _ _ 1 _ _ _ b2
        have f1 := frozen_of_row _ _ 1 _ _ b2
        have c2 := cell_of_row _ _ 2 _ _ _ b2
        have f2 := frozen_of_row _ _ 2 _ _ b2
        have c3 := cell_of_row _ _ 3 _ _ _ b2
        have f3 := frozen_of_row _ _ 3 _ _ b2
        have c4 := cell_of_row _ _ 4 _ _ _ b2
        have f4 := frozen_of_row _ _ 4 _ _ b2
        have c5 := cell_of_row _ _ 5 _ _ _ b2
        have f5 := frozen_of_row _ _ 5 _ _ b2
        have c6 := cell_of_row _ _ 6 _ _ _ b2
        have f6 := frozen_of_row _ _ 6 _ _ b2
        have c7 := cell_of_row _ _ 7 _ _ _ b2
        have f7 := frozen_of_row _ _ 7 _ _ b2
        have c8 := cell_of_row _ _ 8 _ _ _ b2
        have f8 := frozen_of_row _ _ 8 _ _ b2
        have c9 := cell_of_row _ _ 9 _ _ _ b2
        have f9 := frozen_of_row _ _ 9 _ _ b2
        have c10 := cell_of_row _ _ 10 _ _ _ b2
        have f10 := frozen_of_row _ _ 10 _ _ b2
        have c11 := cell_of_row _ _ 11 _ _ _ b2
        have f11 := frozen_of_row _ _ 11 _ _ b2
        have c12 := cell_of_row _ _ 12 _ _ _ b2
        have f12 := frozen_of_row _ _ 12 _ _ b2
        have c13 := cell_of_row _ _ 13 _ _ _ b2
        have f13 := frozen_of_row _ _ 13 _ _ b2
        have t0 := d0 V hV
        have t1 := d1 V hV
        have t2 := d2 V hV
        have t3 := d3 V hV
        have t4 := d4 V hV
        have t5 := d5 V hV
        have t6 := d6 V hV
        have t7 := d7 V hV
        have t8 := d8 V hV
        have t9 := d9 V hV
        have t10 := d10 V hV
        have t11 := d11 V hV
        have t12 := d12 V hV
        have t13 := d13 V hV
        have tS := sK V hV
        go_wp2_with fail
        (try simp only [Exit.inBlock, Exit.then])
        refine bodyPost_ret (ret_row (r := r) rfl rfl (fill14 _ _ _ _ _ _ _ _ _ _ _ _ _ _ b2)) rfl ⟨by rw [rowN_hit HR.out.1 HRN.out HR.out.2.1], HelN.below (HelN.set (HelN.set (HelN.set (HelN.set (HelN.set (HelN.set (HelN.set (HelN.set (HelN.set (HelN.set (HelN.set (HelN.set (HelN.set (HelN.set h14 0 _) 1 _) 2 _) 3 _) 4 _) 5 _) 6 _) 7 _) 8 _) 9 _) 10 _) 11 _) 12 _) 13 _) HA.out.2.2.1 (Nat.le_refl _) (by omega)⟩
      · rw [show (r.1 == n) = false by simp [hrn]] at he
        have HRN := Lib.hid hrn
        clear hrn
        go_upto_region 4 with fail
        go_quiet (fail)
        go_wp2_with fail
        refine ⟨⟨k + 1, rfl, by omega, fun x hx => ?_, below_drewN HR.out.2.2 _⟩, by simp [intOf]; omega⟩
        rw [take_suc HR.out.1] at hx
        rcases List.mem_append.1 hx with h | h
        · exact HR.out.2.1 x h
        · simp at h; subst h; exact HRN.out
    · obtain rfl : k = N := by omega
      have hnl : ¬ ((k : Int) < (k : Int)) := by omega
      have HM := Lib.hid (show rowN l n = (n, (0, 0), (0, 0)) from rowN_miss (by rw [List.take_of_length_le (by rw [HN.out]; exact Nat.le_refl _)] at hpre; exact hpre))
      have l1 := sK wr hbl
      have hz : rvA (n, (0, 0), (0, 0)) = #[.int .u64 (lb n 0), .int .u64 (lb n 1), .int .u64 (lb n 2), .int .u64 (lb n 3), .int .u64 0, .int .u64 0, .int .u64 0, .int .u64 0, .int .u64 0, .int .u64 0, .int .u64 0, .int .u64 0, .int .u64 0, .int .u64 0] := by simp [lb0]
      obtain ⟨V, hVe⟩ : ∃ V, wr = V := ⟨_, rfl⟩
      have hV : Below W1.heap.size W1 V := by rw [← hVe]; exact hbl
      rw [hVe] at hbl l1 ⊢
      clear hVe
      have b2 := HA.out.2.2.2.keep hV
      have h14 : HelN 14 59 W1 (w.heap.size + 1 + 1) V := HelN.call hV ⟨grown_refl W1 _, _, rfl, HA.out.2.2.2⟩
      have c0 := cell_of_row _ _ 0 _ _ _ b2
      have f0 := frozen_of_row _ _ 0 _ _ b2
      have c1 := cell_of_row _ _ 1 _ _ _ b2
      have f1 := frozen_of_row _ _ 1 _ _ b2
      have c2 := cell_of_row _ _ 2 _ _ _ b2
      have f2 := frozen_of_row _ _ 2 _ _ b2
      have c3 := cell_of_row _ _ 3 _ _ _ b2
      have f3 := frozen_of_row _ _ 3 _ _ b2
      have c4 := cell_of_row _ _ 4 _ _ _ b2
      have f4 := frozen_of_row _ _ 4 _ _ b2
      have c5 := cell_of_row _ _ 5 _ _ _ b2
      have f5 := frozen_of_row _ _ 5 _ _ b2
      have c6 := cell_of_row _ _ 6 _ _ _ b2
      have f6 := frozen_of_row _ _ 6 _ _ b2
      have c7 := cell_of_row _ _ 7 _ _ _ b2
      have f7 := frozen_of_row _ _ 7 _ _ b2
      have c8 := cell_of_row _ _ 8 _ _ _ b2
      have f8 := frozen_of_row _ _ 8 _ _ b2
      have c9 := cell_of_row _ _ 9 _ _ _ b2
      have f9 := frozen_of_row _ _ 9 _ _ b2
      have c10 := cell_of_row _ _ 10 _ _ _ b2
      have f10 := frozen_of_row _ _ 10 _ _ b2
      have c11 := cell_of_row _ _ 11 _ _ _ b2
      have f11 := frozen_of_row _ _ 11 _ _ b2
      have c12 := cell_of_row _ _ 12 _ _ _ b2
      have f12 := frozen_of_row _ _ 12 _ _ b2
      have c13 := cell_of_row _ _ 13 _ _ _ b2
      have f13 := frozen_of_row _ _ 13 _ _ b2
      have t0 := k0 V hV
      have t1 := k1 V hV
      have t2 := k2 V hV
      have t3 := k3 V hV
      go_wp2_with fail
      (try simp only [Exit.inBlock, Exit.then])
      refine bodyPost_ret (ret_row (r := (n, (0, 0), (0, 0))) rfl rfl (by rw [hz]; exact fill14 _ _ _ _ _ _ _ _ _ _ _ _ _ _ b2)) rfl ⟨by rw [HM.out], HelN.below (HelN.set (HelN.set (HelN.set (HelN.set (HelN.set (HelN.set (HelN.set (HelN.set (HelN.set (HelN.set (HelN.set (HelN.set (HelN.set (HelN.set h14 0 _) 1 _) 2 _) 3 _) 4 _) 5 _) 6 _) 7 _) 8 _) 9 _) 10 _) 11 _) 12 _) 13 _) HA.out.2.2.1 (Nat.le_refl _) (by omega)⟩

end Go.Proofs.Ytcfnhilcpfiocaa
