/- policy: the reference's Target. -/
import Derived.Test.YtenepkgjdoddgaaGreatDoorPc
namespace Go.Proofs.YtenepkgjdoddgaaGreatDoor
open Go.RowKit Go.Shelf

set_option maxRecDepth 100000 in
set_option maxHeartbeats 4000000 in
theorem rtarget_any (d e : Nat) (cv rv : Value) (rs : List (List Nat × Nat × Nat)) (a : List Nat) (w : World) (hcs : RlA w rv rs) (ha : Ad a) :
    Calls Tryz.prog 12 #[.agg #[.int .u64 d, cv, rv], .agg (adC a), .int .u32 e] w fun y w' => y = .returned (.tuple #[.int .u64 ((trg a e rs).getD 0 : Nat), .bool (trg a e rs).isSome]) ∧ Below w.heap.size w w' := by
  obtain ⟨X, hX⟩ : ∃ X, (w.alloc (.cells #[.int .u64 d, cv, rv] 27)).alloc (.cells (adC a) 29) = X := ⟨_, rfl⟩
  have b1 : Blk X w.heap.size 27 #[.int .u64 d, cv, rv] := by rw [← hX]; exact (Blk.new w _ _).alloc _
  have b2 : Blk X (w.heap.size + 1) 29 (adC a) := by rw [← hX]; exact Blk.newS w _ _ _
  have hW : Below w.heap.size w X := by rw [← hX]; exact balloc (balloc (Below.refl _ _) _) _
  have HX := Lib.hid hX
  obtain ⟨x, cap, rfl, hl, hcells⟩ := hcs.2
  have H0 := Lib.hid (And.intro b1 (And.intro b2 (And.intro hW (And.intro hcs ha))))
  obtain ⟨n, hn⟩ : ∃ n, rs.length = n := ⟨_, rfl⟩
  have HN := Lib.hid hn
  rw [hn] at hl HX ⊢
  clear hX b1 b2 hW hcs ha hcells hn
  go_enter Tryz.func12, Tryz.ntmps12
  go_wp2_with fail
  rw [HX.out]
  go_loopw [8] (fun t wr => ∃ k : Nat, k ≤ n ∧ t = .int .i64 k ∧ Below X.heap.size X wr ∧ trg a e rs = trg a e (rs.drop k)) (fun t _ => n - (intOf t).toNat)
  case atStart => exact ⟨0, Nat.zero_le _, rfl, Below.refl _ _, rfl⟩
  case round =>
    obtain ⟨k, hk, rfl, hXw, hcl⟩ := hrel
    obtain ⟨b1, b2, hW, hcs, ha⟩ := H0.out
    have hWr := hW.trans (hXw.mono hW.size)
    have hb1 := b1.keep hXw
    rw [HN.out] at hb1
    have k1 := cell_of_row _ _ 2 _ _ _ hb1
    by_cases hlt : k < n
    · obtain ⟨c, hc⟩ : ∃ c, rs[k]? = some c := ⟨_, List.getElem?_eq_getElem (by have := HN.out; omega)⟩
      obtain ⟨hca, hcl1, hcl2⟩ := hcs.1 c (List.mem_of_getElem? hc)
      obtain ⟨_, x', cap', he, _, hcells⟩ := hcs.new hWr
      obtain ⟨b, o, hx', hbl, hrng⟩ := hcells (fun e => by rw [e] at hc; cases hc)
      injection he with e1 e2 e3
      rw [← e1] at hx'
      subst hx'
      have hr := hrng k c hc
      have ke := rl_entry hca hr
      have kl := rl_target hca hr
      have g0 : (k : Int) < (n : Int) := by omega
      have g1 : (0 : Int) ≤ (k : Int) := by omega
      have g2 : IntKind.i64.wrap ((k : Int) + 1) = ((k + 1 : Nat) : Int) := IntWalk.i64_in _ (by omega)
      have hB2 := b2.keep hXw
      have hQ := eq_addr hca ha
      have HS := Lib.hid (And.intro hc (And.intro hcl (And.intro hXw (And.intro hr (And.intro hB2 (And.intro hca (And.intro ha hQ)))))))
      clear hcl hXw hr hrng hcells e1 e2 e3 hc b1 b2 hW hcs hB2 hQ hca ha hb1
      go_upto_region 4 with fail
      have hQ := HS.out.2.2.2.2.2.2.2
      by_cases hca : c.1 = a
      · rw [decide_eq_true hca] at hQ
        by_cases hce : c.2.1 = e
        · have q1 : ((c.2.1 : Int) == (e : Int)) = true := by rw [hce]; simp
          have q2 : (c.2.1 : Int) = (e : Int) := by omega
          have ht := trg_of HS.out.1 hca hce
          have HT := Lib.hid (HS.out.2.1.trans ht)
          clear hca hce ht
          refine wp_region_held_drew (S := fun w' => ∀ p, w'.cell? p = wr.cell? p) (by as_aux_lemma => kernel_rfl) (fun _ => rfl) (fun hHeld => ?_)
          simp only [List.size_toArray, List.length_cons, List.length_nil, Nat.reduceAdd, Array.replicate_succ, Array.replicate_zero, List.push_toArray, List.nil_append, List.cons_append]
          refine wpAnyH_take (i := 0) (oi := { dst := some 16, op := Op.fieldAddr 27 (Operand.tmp 3) 2, type := 0, pos := "ref.go:44", after := #[], guard := none }) (v := ?vq0a) rfl (by as_aux_lemma => kernel_rfl) (by as_aux_lemma => kernel_rfl) (by as_aux_lemma => kernel_rfl) (fun _ _ _ h => h) (Or.inl ⟨by rfl, ?yq0a⟩) (by assumption) ?rq0a
          case yq0a => (intro wS hSw; (try dsimp only at hSw); have kq := (hSw ⟨w.heap.size, 2, none⟩).trans k1; have kq2 := (hSw ⟨b, o + k * 22 + 20, none⟩).trans ke; go_simp <;> with_reducible rfl)
          simp only [Act.put, List.setIfInBounds_toArray, List.set_cons_zero, List.set_cons_succ]
          refine wpAnyH_take (i := 1) (oi := { dst := some 17, op := Op.load 25 (Operand.tmp 16), type := 25, pos := "ref.go:44", after := #[{ on := 0, ground := Ground.data }], guard := none }) (v := ?vq1a) rfl (by as_aux_lemma => kernel_rfl) (by as_aux_lemma => kernel_rfl) (by as_aux_lemma => kernel_rfl) (fun _ _ _ h => h) (Or.inl ⟨by rfl, ?yq1a⟩) (by assumption) ?rq1a
          case yq1a => (intro wS hSw; (try dsimp only at hSw); have kq := (hSw ⟨w.heap.size, 2, none⟩).trans k1; have kq2 := (hSw ⟨b, o + k * 22 + 20, none⟩).trans ke; go_simp <;> with_reducible rfl)
          simp only [Act.put, List.setIfInBounds_toArray, List.set_cons_zero, List.set_cons_succ]
          refine wpAnyH_take (i := 2) (oi := { dst := some 18, op := Op.move (Operand.tmp 8), type := 3, pos := "ref.go:44", after := #[], guard := none }) (v := ?vq2a) rfl (by as_aux_lemma => kernel_rfl) (by as_aux_lemma => kernel_rfl) (by as_aux_lemma => kernel_rfl) (fun _ _ _ h => h) (Or.inl ⟨by rfl, ?yq2a⟩) (by assumption) ?rq2a
          case yq2a => (intro wS hSw; (try dsimp only at hSw); have kq := (hSw ⟨w.heap.size, 2, none⟩).trans k1; have kq2 := (hSw ⟨b, o + k * 22 + 20, none⟩).trans ke; go_simp <;> with_reducible rfl)
          simp only [Act.put, List.setIfInBounds_toArray, List.set_cons_zero, List.set_cons_succ]
          refine wpAnyH_take (i := 3) (oi := { dst := some 19, op := Op.indexAddr 25 (Operand.tmp 17) (Operand.tmp 18), type := 0, pos := "ref.go:44", after := #[{ on := 1, ground := Ground.data }, { on := 2, ground := Ground.data }], guard := none }) (v := ?vq3a) rfl (by as_aux_lemma => kernel_rfl) (by as_aux_lemma => kernel_rfl) (by as_aux_lemma => kernel_rfl) (fun _ _ _ h => h) (Or.inl ⟨by rfl, ?yq3a⟩) (by assumption) ?rq3a
          case yq3a => (intro wS hSw; (try dsimp only at hSw); have kq := (hSw ⟨w.heap.size, 2, none⟩).trans k1; have kq2 := (hSw ⟨b, o + k * 22 + 20, none⟩).trans ke; go_simp <;> with_reducible rfl)
          simp only [Act.put, List.setIfInBounds_toArray, List.set_cons_zero, List.set_cons_succ]
          refine wpAnyH_take (i := 4) (oi := { dst := some 20, op := Op.fieldAddr 74 (Operand.tmp 19) 0, type := 0, pos := "ref.go:44", after := #[{ on := 3, ground := Ground.data }], guard := none }) (v := ?vq4a) rfl (by as_aux_lemma => kernel_rfl) (by as_aux_lemma => kernel_rfl) (by as_aux_lemma => kernel_rfl) (fun _ _ _ h => h) (Or.inl ⟨by rfl, ?yq4a⟩) (by assumption) ?rq4a
          case yq4a => (intro wS hSw; (try dsimp only at hSw); have kq := (hSw ⟨w.heap.size, 2, none⟩).trans k1; have kq2 := (hSw ⟨b, o + k * 22 + 20, none⟩).trans ke; go_simp <;> with_reducible rfl)
          simp only [Act.put, List.setIfInBounds_toArray, List.set_cons_zero, List.set_cons_succ]
          refine wpAnyH_take (i := 5) (oi := { dst := some 21, op := Op.load 29 (Operand.tmp 20), type := 29, pos := "ref.go:44", after := #[{ on := 4, ground := Ground.data }], guard := none }) (v := .agg (adC c.1)) rfl (by as_aux_lemma => kernel_rfl) (by as_aux_lemma => kernel_rfl) (by as_aux_lemma => kernel_rfl) (fun _ _ _ h => h) (yieldsIf_load_A (by rfl) 29 (.tmp 20) rfl (b) (o + k * 22) rfl (adC c.1) _ (fun w hw => by rw [adC_list]; exact range_same (rl_addr HS.out.2.2.2.1) hw) und_addr rfl (by rw [info_addr, adC_size HS.out.2.2.2.2.2.1])) (by assumption) ?_
          simp only [Act.put, List.setIfInBounds_toArray, List.set_cons_zero, List.set_cons_succ]
          refine wpAnyH_take (i := 6) (oi := { dst := some 22, op := Op.load 29 (Operand.tmp 4), type := 29, pos := "ref.go:44", after := #[], guard := none }) (v := .agg (adC a)) rfl (by as_aux_lemma => kernel_rfl) (by as_aux_lemma => kernel_rfl) (by as_aux_lemma => kernel_rfl) (fun _ _ _ h => h) (yieldsIf_load_A (by rfl) 29 (.tmp 4) rfl (w.heap.size + 1) (0) rfl (adC a) _ (fun w hw => range_same HS.out.2.2.2.2.1.range hw) und_addr rfl (by rw [info_addr, adC_size HS.out.2.2.2.2.2.2.1])) (by assumption) ?_
          simp only [Act.put, List.setIfInBounds_toArray, List.set_cons_zero, List.set_cons_succ]
          refine wpAnyH_take (i := 7) (oi := { dst := some 23, op := Op.binOp BinOp.eql 29 (Operand.tmp 21) (Operand.tmp 22) 29, type := 4, pos := "ref.go:44", after := #[{ on := 5, ground := Ground.data }, { on := 6, ground := Ground.data }], guard := none }) (v := ?vq7a) rfl (by as_aux_lemma => kernel_rfl) (by as_aux_lemma => kernel_rfl) (by as_aux_lemma => kernel_rfl) (fun _ _ _ h => h) (Or.inl ⟨by rfl, ?yq7a⟩) (by assumption) ?rq7a
          case yq7a => (intro wS hSw; (try dsimp only at hSw); have kq := (hSw ⟨w.heap.size, 2, none⟩).trans k1; have kq2 := (hSw ⟨b, o + k * 22 + 20, none⟩).trans ke; go_simp <;> with_reducible rfl)
          simp only [Act.put, List.setIfInBounds_toArray, List.set_cons_zero, List.set_cons_succ]
          refine wpAnyH_take (i := 8) (oi := { dst := some 24, op := Op.move (Operand.tmp 23), type := 4, pos := "ref.go:44", after := #[{ on := 7, ground := Ground.data }], guard := none }) (v := ?vq8a) rfl (by as_aux_lemma => kernel_rfl) (by as_aux_lemma => kernel_rfl) (by as_aux_lemma => kernel_rfl) (fun _ _ _ h => h) (Or.inl ⟨by rfl, ?yq8a⟩) (by assumption) ?rq8a
          case yq8a => (intro wS hSw; (try dsimp only at hSw); have kq := (hSw ⟨w.heap.size, 2, none⟩).trans k1; have kq2 := (hSw ⟨b, o + k * 22 + 20, none⟩).trans ke; go_simp <;> with_reducible rfl)
          simp only [Act.put, List.setIfInBounds_toArray, List.set_cons_zero, List.set_cons_succ]
          refine wpAnyH_take (i := 9) (oi := { dst := some 25, op := Op.fieldAddr 27 (Operand.tmp 3) 2, type := 0, pos := "ref.go:44", after := #[{ on := 8, ground := Ground.guard }], guard := some (8, true) }) (v := ?vq9a) rfl (by as_aux_lemma => kernel_rfl) (by as_aux_lemma => kernel_rfl) (by as_aux_lemma => kernel_rfl) (fun _ _ _ h => h) (Or.inl ⟨by rfl, ?yq9a⟩) (by assumption) ?rq9a
          case yq9a => (intro wS hSw; (try dsimp only at hSw); have kq := (hSw ⟨w.heap.size, 2, none⟩).trans k1; have kq2 := (hSw ⟨b, o + k * 22 + 20, none⟩).trans ke; go_simp <;> with_reducible rfl)
          simp only [Act.put, List.setIfInBounds_toArray, List.set_cons_zero, List.set_cons_succ]
          refine wpAnyH_take (i := 10) (oi := { dst := some 26, op := Op.load 25 (Operand.tmp 25), type := 25, pos := "ref.go:44", after := #[{ on := 9, ground := Ground.data }, { on := 8, ground := Ground.guard }], guard := some (8, true) }) (v := ?vq10a) rfl (by as_aux_lemma => kernel_rfl) (by as_aux_lemma => kernel_rfl) (by as_aux_lemma => kernel_rfl) (fun _ _ _ h => h) (Or.inl ⟨by rfl, ?yq10a⟩) (by assumption) ?rq10a
          case yq10a => (intro wS hSw; (try dsimp only at hSw); have kq := (hSw ⟨w.heap.size, 2, none⟩).trans k1; have kq2 := (hSw ⟨b, o + k * 22 + 20, none⟩).trans ke; go_simp <;> with_reducible rfl)
          simp only [Act.put, List.setIfInBounds_toArray, List.set_cons_zero, List.set_cons_succ]
          refine wpAnyH_take (i := 11) (oi := { dst := some 27, op := Op.move (Operand.tmp 8), type := 3, pos := "ref.go:44", after := #[{ on := 8, ground := Ground.guard }], guard := some (8, true) }) (v := ?vq11a) rfl (by as_aux_lemma => kernel_rfl) (by as_aux_lemma => kernel_rfl) (by as_aux_lemma => kernel_rfl) (fun _ _ _ h => h) (Or.inl ⟨by rfl, ?yq11a⟩) (by assumption) ?rq11a
          case yq11a => (intro wS hSw; (try dsimp only at hSw); have kq := (hSw ⟨w.heap.size, 2, none⟩).trans k1; have kq2 := (hSw ⟨b, o + k * 22 + 20, none⟩).trans ke; go_simp <;> with_reducible rfl)
          simp only [Act.put, List.setIfInBounds_toArray, List.set_cons_zero, List.set_cons_succ]
          refine wpAnyH_take (i := 12) (oi := { dst := some 28, op := Op.indexAddr 25 (Operand.tmp 26) (Operand.tmp 27), type := 0, pos := "ref.go:44", after := #[{ on := 10, ground := Ground.data }, { on := 11, ground := Ground.data }, { on := 8, ground := Ground.guard }], guard := some (8, true) }) (v := ?vq12a) rfl (by as_aux_lemma => kernel_rfl) (by as_aux_lemma => kernel_rfl) (by as_aux_lemma => kernel_rfl) (fun _ _ _ h => h) (Or.inl ⟨by rfl, ?yq12a⟩) (by assumption) ?rq12a
          case yq12a => (intro wS hSw; (try dsimp only at hSw); have kq := (hSw ⟨w.heap.size, 2, none⟩).trans k1; have kq2 := (hSw ⟨b, o + k * 22 + 20, none⟩).trans ke; go_simp <;> with_reducible rfl)
          simp only [Act.put, List.setIfInBounds_toArray, List.set_cons_zero, List.set_cons_succ]
          refine wpAnyH_take (i := 13) (oi := { dst := some 29, op := Op.fieldAddr 74 (Operand.tmp 28) 1, type := 0, pos := "ref.go:44", after := #[{ on := 12, ground := Ground.data }, { on := 8, ground := Ground.guard }], guard := some (8, true) }) (v := ?vq13a) rfl (by as_aux_lemma => kernel_rfl) (by as_aux_lemma => kernel_rfl) (by as_aux_lemma => kernel_rfl) (fun _ _ _ h => h) (Or.inl ⟨by rfl, ?yq13a⟩) (by assumption) ?rq13a
          case yq13a => (intro wS hSw; (try dsimp only at hSw); have kq := (hSw ⟨w.heap.size, 2, none⟩).trans k1; have kq2 := (hSw ⟨b, o + k * 22 + 20, none⟩).trans ke; go_simp <;> with_reducible rfl)
          simp only [Act.put, List.setIfInBounds_toArray, List.set_cons_zero, List.set_cons_succ]
          refine wpAnyH_take (i := 14) (oi := { dst := some 30, op := Op.load 30 (Operand.tmp 29), type := 30, pos := "ref.go:44", after := #[{ on := 13, ground := Ground.data }, { on := 8, ground := Ground.guard }], guard := some (8, true) }) (v := ?vq14a) rfl (by as_aux_lemma => kernel_rfl) (by as_aux_lemma => kernel_rfl) (by as_aux_lemma => kernel_rfl) (fun _ _ _ h => h) (Or.inl ⟨by rfl, ?yq14a⟩) (by assumption) ?rq14a
          case yq14a => (intro wS hSw; (try dsimp only at hSw); have kq := (hSw ⟨w.heap.size, 2, none⟩).trans k1; have kq2 := (hSw ⟨b, o + k * 22 + 20, none⟩).trans ke; go_simp <;> with_reducible rfl)
          simp only [Act.put, List.setIfInBounds_toArray, List.set_cons_zero, List.set_cons_succ]
          refine wpAnyH_take (i := 15) (oi := { dst := some 31, op := Op.move (Operand.tmp 2), type := 30, pos := "ref.go:44", after := #[{ on := 8, ground := Ground.guard }], guard := some (8, true) }) (v := ?vq15a) rfl (by as_aux_lemma => kernel_rfl) (by as_aux_lemma => kernel_rfl) (by as_aux_lemma => kernel_rfl) (fun _ _ _ h => h) (Or.inl ⟨by rfl, ?yq15a⟩) (by assumption) ?rq15a
          case yq15a => (intro wS hSw; (try dsimp only at hSw); have kq := (hSw ⟨w.heap.size, 2, none⟩).trans k1; have kq2 := (hSw ⟨b, o + k * 22 + 20, none⟩).trans ke; go_simp <;> with_reducible rfl)
          simp only [Act.put, List.setIfInBounds_toArray, List.set_cons_zero, List.set_cons_succ]
          refine wpAnyH_take (i := 16) (oi := { dst := some 32, op := Op.binOp BinOp.eql 30 (Operand.tmp 30) (Operand.tmp 31) 30, type := 4, pos := "ref.go:44", after := #[{ on := 14, ground := Ground.data }, { on := 15, ground := Ground.data }, { on := 8, ground := Ground.guard }], guard := some (8, true) }) (v := ?vq16a) rfl (by as_aux_lemma => kernel_rfl) (by as_aux_lemma => kernel_rfl) (by as_aux_lemma => kernel_rfl) (fun _ _ _ h => h) (Or.inl ⟨by rfl, ?yq16a⟩) (by assumption) ?rq16a
          case yq16a => (intro wS hSw; (try dsimp only at hSw); have kq := (hSw ⟨w.heap.size, 2, none⟩).trans k1; have kq2 := (hSw ⟨b, o + k * 22 + 20, none⟩).trans ke; go_simp <;> with_reducible rfl)
          simp only [Act.put, List.setIfInBounds_toArray, List.set_cons_zero, List.set_cons_succ]
          refine wpAnyH_take (i := 17) (oi := { dst := some 33, op := Op.pick (Operand.tmp 24) (Operand.tmp 32) (Operand.const (Value.bool false)), type := 4, pos := "ref.go:44", after := #[{ on := 8, ground := Ground.data }, { on := 16, ground := Ground.data }], guard := none }) (v := ?vq17a) rfl (by as_aux_lemma => kernel_rfl) (by as_aux_lemma => kernel_rfl) (by as_aux_lemma => kernel_rfl) (fun _ _ _ h => h) (Or.inl ⟨by rfl, ?yq17a⟩) (by assumption) ?rq17a
          case yq17a => (intro wS hSw; (try dsimp only at hSw); have kq := (hSw ⟨w.heap.size, 2, none⟩).trans k1; have kq2 := (hSw ⟨b, o + k * 22 + 20, none⟩).trans ke; go_simp <;> with_reducible rfl)
          simp only [Act.put, List.setIfInBounds_toArray, List.set_cons_zero, List.set_cons_succ]
          refine wpAnyH_done (by as_aux_lemma => kernel_rfl) ?_ _
          clear hHeld hQ
          go_wp2_with fail
          go_ret2
          rw [HT.out]
          exact ⟨rfl, hWr.trans ⟨rfl, rfl, rfl, Nat.le_refl _, fun _ _ => rfl⟩⟩
        · have q1 : ((c.2.1 : Int) == (e : Int)) = false := by simp; omega
          have q2 : ¬ (c.2.1 : Int) = (e : Int) := by omega
          have ht := trg_not HS.out.1 (fun h => hce h.2 : ¬ (c.1 = a ∧ c.2.1 = e))
          have HT := Lib.hid (HS.out.2.1.trans ht)
          clear hca hce ht
          refine wp_region_held_drew (S := fun w' => ∀ p, w'.cell? p = wr.cell? p) (by as_aux_lemma => kernel_rfl) (fun _ => rfl) (fun hHeld => ?_)
          simp only [List.size_toArray, List.length_cons, List.length_nil, Nat.reduceAdd, Array.replicate_succ, Array.replicate_zero, List.push_toArray, List.nil_append, List.cons_append]
          refine wpAnyH_take (i := 0) (oi := { dst := some 16, op := Op.fieldAddr 27 (Operand.tmp 3) 2, type := 0, pos := "ref.go:44", after := #[], guard := none }) (v := ?vq0b) rfl (by as_aux_lemma => kernel_rfl) (by as_aux_lemma => kernel_rfl) (by as_aux_lemma => kernel_rfl) (fun _ _ _ h => h) (Or.inl ⟨by rfl, ?yq0b⟩) (by assumption) ?rq0b
          case yq0b => (intro wS hSw; (try dsimp only at hSw); have kq := (hSw ⟨w.heap.size, 2, none⟩).trans k1; have kq2 := (hSw ⟨b, o + k * 22 + 20, none⟩).trans ke; go_simp <;> with_reducible rfl)
          simp only [Act.put, List.setIfInBounds_toArray, List.set_cons_zero, List.set_cons_succ]
          refine wpAnyH_take (i := 1) (oi := { dst := some 17, op := Op.load 25 (Operand.tmp 16), type := 25, pos := "ref.go:44", after := #[{ on := 0, ground := Ground.data }], guard := none }) (v := ?vq1b) rfl (by as_aux_lemma => kernel_rfl) (by as_aux_lemma => kernel_rfl) (by as_aux_lemma => kernel_rfl) (fun _ _ _ h => h) (Or.inl ⟨by rfl, ?yq1b⟩) (by assumption) ?rq1b
          case yq1b => (intro wS hSw; (try dsimp only at hSw); have kq := (hSw ⟨w.heap.size, 2, none⟩).trans k1; have kq2 := (hSw ⟨b, o + k * 22 + 20, none⟩).trans ke; go_simp <;> with_reducible rfl)
          simp only [Act.put, List.setIfInBounds_toArray, List.set_cons_zero, List.set_cons_succ]
          refine wpAnyH_take (i := 2) (oi := { dst := some 18, op := Op.move (Operand.tmp 8), type := 3, pos := "ref.go:44", after := #[], guard := none }) (v := ?vq2b) rfl (by as_aux_lemma => kernel_rfl) (by as_aux_lemma => kernel_rfl) (by as_aux_lemma => kernel_rfl) (fun _ _ _ h => h) (Or.inl ⟨by rfl, ?yq2b⟩) (by assumption) ?rq2b
          case yq2b => (intro wS hSw; (try dsimp only at hSw); have kq := (hSw ⟨w.heap.size, 2, none⟩).trans k1; have kq2 := (hSw ⟨b, o + k * 22 + 20, none⟩).trans ke; go_simp <;> with_reducible rfl)
          simp only [Act.put, List.setIfInBounds_toArray, List.set_cons_zero, List.set_cons_succ]
          refine wpAnyH_take (i := 3) (oi := { dst := some 19, op := Op.indexAddr 25 (Operand.tmp 17) (Operand.tmp 18), type := 0, pos := "ref.go:44", after := #[{ on := 1, ground := Ground.data }, { on := 2, ground := Ground.data }], guard := none }) (v := ?vq3b) rfl (by as_aux_lemma => kernel_rfl) (by as_aux_lemma => kernel_rfl) (by as_aux_lemma => kernel_rfl) (fun _ _ _ h => h) (Or.inl ⟨by rfl, ?yq3b⟩) (by assumption) ?rq3b
          case yq3b => (intro wS hSw; (try dsimp only at hSw); have kq := (hSw ⟨w.heap.size, 2, none⟩).trans k1; have kq2 := (hSw ⟨b, o + k * 22 + 20, none⟩).trans ke; go_simp <;> with_reducible rfl)
          simp only [Act.put, List.setIfInBounds_toArray, List.set_cons_zero, List.set_cons_succ]
          refine wpAnyH_take (i := 4) (oi := { dst := some 20, op := Op.fieldAddr 74 (Operand.tmp 19) 0, type := 0, pos := "ref.go:44", after := #[{ on := 3, ground := Ground.data }], guard := none }) (v := ?vq4b) rfl (by as_aux_lemma => kernel_rfl) (by as_aux_lemma => kernel_rfl) (by as_aux_lemma => kernel_rfl) (fun _ _ _ h => h) (Or.inl ⟨by rfl, ?yq4b⟩) (by assumption) ?rq4b
          case yq4b => (intro wS hSw; (try dsimp only at hSw); have kq := (hSw ⟨w.heap.size, 2, none⟩).trans k1; have kq2 := (hSw ⟨b, o + k * 22 + 20, none⟩).trans ke; go_simp <;> with_reducible rfl)
          simp only [Act.put, List.setIfInBounds_toArray, List.set_cons_zero, List.set_cons_succ]
          refine wpAnyH_take (i := 5) (oi := { dst := some 21, op := Op.load 29 (Operand.tmp 20), type := 29, pos := "ref.go:44", after := #[{ on := 4, ground := Ground.data }], guard := none }) (v := .agg (adC c.1)) rfl (by as_aux_lemma => kernel_rfl) (by as_aux_lemma => kernel_rfl) (by as_aux_lemma => kernel_rfl) (fun _ _ _ h => h) (yieldsIf_load_A (by rfl) 29 (.tmp 20) rfl (b) (o + k * 22) rfl (adC c.1) _ (fun w hw => by rw [adC_list]; exact range_same (rl_addr HS.out.2.2.2.1) hw) und_addr rfl (by rw [info_addr, adC_size HS.out.2.2.2.2.2.1])) (by assumption) ?_
          simp only [Act.put, List.setIfInBounds_toArray, List.set_cons_zero, List.set_cons_succ]
          refine wpAnyH_take (i := 6) (oi := { dst := some 22, op := Op.load 29 (Operand.tmp 4), type := 29, pos := "ref.go:44", after := #[], guard := none }) (v := .agg (adC a)) rfl (by as_aux_lemma => kernel_rfl) (by as_aux_lemma => kernel_rfl) (by as_aux_lemma => kernel_rfl) (fun _ _ _ h => h) (yieldsIf_load_A (by rfl) 29 (.tmp 4) rfl (w.heap.size + 1) (0) rfl (adC a) _ (fun w hw => range_same HS.out.2.2.2.2.1.range hw) und_addr rfl (by rw [info_addr, adC_size HS.out.2.2.2.2.2.2.1])) (by assumption) ?_
          simp only [Act.put, List.setIfInBounds_toArray, List.set_cons_zero, List.set_cons_succ]
          refine wpAnyH_take (i := 7) (oi := { dst := some 23, op := Op.binOp BinOp.eql 29 (Operand.tmp 21) (Operand.tmp 22) 29, type := 4, pos := "ref.go:44", after := #[{ on := 5, ground := Ground.data }, { on := 6, ground := Ground.data }], guard := none }) (v := ?vq7b) rfl (by as_aux_lemma => kernel_rfl) (by as_aux_lemma => kernel_rfl) (by as_aux_lemma => kernel_rfl) (fun _ _ _ h => h) (Or.inl ⟨by rfl, ?yq7b⟩) (by assumption) ?rq7b
          case yq7b => (intro wS hSw; (try dsimp only at hSw); have kq := (hSw ⟨w.heap.size, 2, none⟩).trans k1; have kq2 := (hSw ⟨b, o + k * 22 + 20, none⟩).trans ke; go_simp <;> with_reducible rfl)
          simp only [Act.put, List.setIfInBounds_toArray, List.set_cons_zero, List.set_cons_succ]
          refine wpAnyH_take (i := 8) (oi := { dst := some 24, op := Op.move (Operand.tmp 23), type := 4, pos := "ref.go:44", after := #[{ on := 7, ground := Ground.data }], guard := none }) (v := ?vq8b) rfl (by as_aux_lemma => kernel_rfl) (by as_aux_lemma => kernel_rfl) (by as_aux_lemma => kernel_rfl) (fun _ _ _ h => h) (Or.inl ⟨by rfl, ?yq8b⟩) (by assumption) ?rq8b
          case yq8b => (intro wS hSw; (try dsimp only at hSw); have kq := (hSw ⟨w.heap.size, 2, none⟩).trans k1; have kq2 := (hSw ⟨b, o + k * 22 + 20, none⟩).trans ke; go_simp <;> with_reducible rfl)
          simp only [Act.put, List.setIfInBounds_toArray, List.set_cons_zero, List.set_cons_succ]
          refine wpAnyH_take (i := 9) (oi := { dst := some 25, op := Op.fieldAddr 27 (Operand.tmp 3) 2, type := 0, pos := "ref.go:44", after := #[{ on := 8, ground := Ground.guard }], guard := some (8, true) }) (v := ?vq9b) rfl (by as_aux_lemma => kernel_rfl) (by as_aux_lemma => kernel_rfl) (by as_aux_lemma => kernel_rfl) (fun _ _ _ h => h) (Or.inl ⟨by rfl, ?yq9b⟩) (by assumption) ?rq9b
          case yq9b => (intro wS hSw; (try dsimp only at hSw); have kq := (hSw ⟨w.heap.size, 2, none⟩).trans k1; have kq2 := (hSw ⟨b, o + k * 22 + 20, none⟩).trans ke; go_simp <;> with_reducible rfl)
          simp only [Act.put, List.setIfInBounds_toArray, List.set_cons_zero, List.set_cons_succ]
          refine wpAnyH_take (i := 10) (oi := { dst := some 26, op := Op.load 25 (Operand.tmp 25), type := 25, pos := "ref.go:44", after := #[{ on := 9, ground := Ground.data }, { on := 8, ground := Ground.guard }], guard := some (8, true) }) (v := ?vq10b) rfl (by as_aux_lemma => kernel_rfl) (by as_aux_lemma => kernel_rfl) (by as_aux_lemma => kernel_rfl) (fun _ _ _ h => h) (Or.inl ⟨by rfl, ?yq10b⟩) (by assumption) ?rq10b
          case yq10b => (intro wS hSw; (try dsimp only at hSw); have kq := (hSw ⟨w.heap.size, 2, none⟩).trans k1; have kq2 := (hSw ⟨b, o + k * 22 + 20, none⟩).trans ke; go_simp <;> with_reducible rfl)
          simp only [Act.put, List.setIfInBounds_toArray, List.set_cons_zero, List.set_cons_succ]
          refine wpAnyH_take (i := 11) (oi := { dst := some 27, op := Op.move (Operand.tmp 8), type := 3, pos := "ref.go:44", after := #[{ on := 8, ground := Ground.guard }], guard := some (8, true) }) (v := ?vq11b) rfl (by as_aux_lemma => kernel_rfl) (by as_aux_lemma => kernel_rfl) (by as_aux_lemma => kernel_rfl) (fun _ _ _ h => h) (Or.inl ⟨by rfl, ?yq11b⟩) (by assumption) ?rq11b
          case yq11b => (intro wS hSw; (try dsimp only at hSw); have kq := (hSw ⟨w.heap.size, 2, none⟩).trans k1; have kq2 := (hSw ⟨b, o + k * 22 + 20, none⟩).trans ke; go_simp <;> with_reducible rfl)
          simp only [Act.put, List.setIfInBounds_toArray, List.set_cons_zero, List.set_cons_succ]
          refine wpAnyH_take (i := 12) (oi := { dst := some 28, op := Op.indexAddr 25 (Operand.tmp 26) (Operand.tmp 27), type := 0, pos := "ref.go:44", after := #[{ on := 10, ground := Ground.data }, { on := 11, ground := Ground.data }, { on := 8, ground := Ground.guard }], guard := some (8, true) }) (v := ?vq12b) rfl (by as_aux_lemma => kernel_rfl) (by as_aux_lemma => kernel_rfl) (by as_aux_lemma => kernel_rfl) (fun _ _ _ h => h) (Or.inl ⟨by rfl, ?yq12b⟩) (by assumption) ?rq12b
          case yq12b => (intro wS hSw; (try dsimp only at hSw); have kq := (hSw ⟨w.heap.size, 2, none⟩).trans k1; have kq2 := (hSw ⟨b, o + k * 22 + 20, none⟩).trans ke; go_simp <;> with_reducible rfl)
          simp only [Act.put, List.setIfInBounds_toArray, List.set_cons_zero, List.set_cons_succ]
          refine wpAnyH_take (i := 13) (oi := { dst := some 29, op := Op.fieldAddr 74 (Operand.tmp 28) 1, type := 0, pos := "ref.go:44", after := #[{ on := 12, ground := Ground.data }, { on := 8, ground := Ground.guard }], guard := some (8, true) }) (v := ?vq13b) rfl (by as_aux_lemma => kernel_rfl) (by as_aux_lemma => kernel_rfl) (by as_aux_lemma => kernel_rfl) (fun _ _ _ h => h) (Or.inl ⟨by rfl, ?yq13b⟩) (by assumption) ?rq13b
          case yq13b => (intro wS hSw; (try dsimp only at hSw); have kq := (hSw ⟨w.heap.size, 2, none⟩).trans k1; have kq2 := (hSw ⟨b, o + k * 22 + 20, none⟩).trans ke; go_simp <;> with_reducible rfl)
          simp only [Act.put, List.setIfInBounds_toArray, List.set_cons_zero, List.set_cons_succ]
          refine wpAnyH_take (i := 14) (oi := { dst := some 30, op := Op.load 30 (Operand.tmp 29), type := 30, pos := "ref.go:44", after := #[{ on := 13, ground := Ground.data }, { on := 8, ground := Ground.guard }], guard := some (8, true) }) (v := ?vq14b) rfl (by as_aux_lemma => kernel_rfl) (by as_aux_lemma => kernel_rfl) (by as_aux_lemma => kernel_rfl) (fun _ _ _ h => h) (Or.inl ⟨by rfl, ?yq14b⟩) (by assumption) ?rq14b
          case yq14b => (intro wS hSw; (try dsimp only at hSw); have kq := (hSw ⟨w.heap.size, 2, none⟩).trans k1; have kq2 := (hSw ⟨b, o + k * 22 + 20, none⟩).trans ke; go_simp <;> with_reducible rfl)
          simp only [Act.put, List.setIfInBounds_toArray, List.set_cons_zero, List.set_cons_succ]
          refine wpAnyH_take (i := 15) (oi := { dst := some 31, op := Op.move (Operand.tmp 2), type := 30, pos := "ref.go:44", after := #[{ on := 8, ground := Ground.guard }], guard := some (8, true) }) (v := ?vq15b) rfl (by as_aux_lemma => kernel_rfl) (by as_aux_lemma => kernel_rfl) (by as_aux_lemma => kernel_rfl) (fun _ _ _ h => h) (Or.inl ⟨by rfl, ?yq15b⟩) (by assumption) ?rq15b
          case yq15b => (intro wS hSw; (try dsimp only at hSw); have kq := (hSw ⟨w.heap.size, 2, none⟩).trans k1; have kq2 := (hSw ⟨b, o + k * 22 + 20, none⟩).trans ke; go_simp <;> with_reducible rfl)
          simp only [Act.put, List.setIfInBounds_toArray, List.set_cons_zero, List.set_cons_succ]
          refine wpAnyH_take (i := 16) (oi := { dst := some 32, op := Op.binOp BinOp.eql 30 (Operand.tmp 30) (Operand.tmp 31) 30, type := 4, pos := "ref.go:44", after := #[{ on := 14, ground := Ground.data }, { on := 15, ground := Ground.data }, { on := 8, ground := Ground.guard }], guard := some (8, true) }) (v := ?vq16b) rfl (by as_aux_lemma => kernel_rfl) (by as_aux_lemma => kernel_rfl) (by as_aux_lemma => kernel_rfl) (fun _ _ _ h => h) (Or.inl ⟨by rfl, ?yq16b⟩) (by assumption) ?rq16b
          case yq16b => (intro wS hSw; (try dsimp only at hSw); have kq := (hSw ⟨w.heap.size, 2, none⟩).trans k1; have kq2 := (hSw ⟨b, o + k * 22 + 20, none⟩).trans ke; go_simp <;> with_reducible rfl)
          simp only [Act.put, List.setIfInBounds_toArray, List.set_cons_zero, List.set_cons_succ]
          refine wpAnyH_take (i := 17) (oi := { dst := some 33, op := Op.pick (Operand.tmp 24) (Operand.tmp 32) (Operand.const (Value.bool false)), type := 4, pos := "ref.go:44", after := #[{ on := 8, ground := Ground.data }, { on := 16, ground := Ground.data }], guard := none }) (v := ?vq17b) rfl (by as_aux_lemma => kernel_rfl) (by as_aux_lemma => kernel_rfl) (by as_aux_lemma => kernel_rfl) (fun _ _ _ h => h) (Or.inl ⟨by rfl, ?yq17b⟩) (by assumption) ?rq17b
          case yq17b => (intro wS hSw; (try dsimp only at hSw); have kq := (hSw ⟨w.heap.size, 2, none⟩).trans k1; have kq2 := (hSw ⟨b, o + k * 22 + 20, none⟩).trans ke; go_simp <;> with_reducible rfl)
          simp only [Act.put, List.setIfInBounds_toArray, List.set_cons_zero, List.set_cons_succ]
          refine wpAnyH_done (by as_aux_lemma => kernel_rfl) ?_ _
          clear hHeld hQ
          go_wp2_with fail
          exact ⟨⟨k + 1, by omega, congrArg (Value.int .i64) (by omega), HS.out.2.2.1.trans ⟨rfl, rfl, rfl, Nat.le_refl _, fun _ _ => rfl⟩, HT.out⟩, by simp [intOf]; omega⟩
      · rw [decide_eq_false hca] at hQ
        have ht := trg_not HS.out.1 (fun h => hca h.1 : ¬ (c.1 = a ∧ c.2.1 = e))
        have HT := Lib.hid (HS.out.2.1.trans ht)
        clear hca ht
        refine wp_region_held_drew (S := fun w' => ∀ p, w'.cell? p = wr.cell? p) (by as_aux_lemma => kernel_rfl) (fun _ => rfl) (fun hHeld => ?_)
        simp only [List.size_toArray, List.length_cons, List.length_nil, Nat.reduceAdd, Array.replicate_succ, Array.replicate_zero, List.push_toArray, List.nil_append, List.cons_append]
        refine wpAnyH_take (i := 0) (oi := { dst := some 16, op := Op.fieldAddr 27 (Operand.tmp 3) 2, type := 0, pos := "ref.go:44", after := #[], guard := none }) (v := ?vq0c) rfl (by as_aux_lemma => kernel_rfl) (by as_aux_lemma => kernel_rfl) (by as_aux_lemma => kernel_rfl) (fun _ _ _ h => h) (Or.inl ⟨by rfl, ?yq0c⟩) (by assumption) ?rq0c
        case yq0c => (intro wS hSw; (try dsimp only at hSw); have kq := (hSw ⟨w.heap.size, 2, none⟩).trans k1; have kq2 := (hSw ⟨b, o + k * 22 + 20, none⟩).trans ke; go_simp <;> with_reducible rfl)
        simp only [Act.put, List.setIfInBounds_toArray, List.set_cons_zero, List.set_cons_succ]
        refine wpAnyH_take (i := 1) (oi := { dst := some 17, op := Op.load 25 (Operand.tmp 16), type := 25, pos := "ref.go:44", after := #[{ on := 0, ground := Ground.data }], guard := none }) (v := ?vq1c) rfl (by as_aux_lemma => kernel_rfl) (by as_aux_lemma => kernel_rfl) (by as_aux_lemma => kernel_rfl) (fun _ _ _ h => h) (Or.inl ⟨by rfl, ?yq1c⟩) (by assumption) ?rq1c
        case yq1c => (intro wS hSw; (try dsimp only at hSw); have kq := (hSw ⟨w.heap.size, 2, none⟩).trans k1; have kq2 := (hSw ⟨b, o + k * 22 + 20, none⟩).trans ke; go_simp <;> with_reducible rfl)
        simp only [Act.put, List.setIfInBounds_toArray, List.set_cons_zero, List.set_cons_succ]
        refine wpAnyH_take (i := 2) (oi := { dst := some 18, op := Op.move (Operand.tmp 8), type := 3, pos := "ref.go:44", after := #[], guard := none }) (v := ?vq2c) rfl (by as_aux_lemma => kernel_rfl) (by as_aux_lemma => kernel_rfl) (by as_aux_lemma => kernel_rfl) (fun _ _ _ h => h) (Or.inl ⟨by rfl, ?yq2c⟩) (by assumption) ?rq2c
        case yq2c => (intro wS hSw; (try dsimp only at hSw); have kq := (hSw ⟨w.heap.size, 2, none⟩).trans k1; have kq2 := (hSw ⟨b, o + k * 22 + 20, none⟩).trans ke; go_simp <;> with_reducible rfl)
        simp only [Act.put, List.setIfInBounds_toArray, List.set_cons_zero, List.set_cons_succ]
        refine wpAnyH_take (i := 3) (oi := { dst := some 19, op := Op.indexAddr 25 (Operand.tmp 17) (Operand.tmp 18), type := 0, pos := "ref.go:44", after := #[{ on := 1, ground := Ground.data }, { on := 2, ground := Ground.data }], guard := none }) (v := ?vq3c) rfl (by as_aux_lemma => kernel_rfl) (by as_aux_lemma => kernel_rfl) (by as_aux_lemma => kernel_rfl) (fun _ _ _ h => h) (Or.inl ⟨by rfl, ?yq3c⟩) (by assumption) ?rq3c
        case yq3c => (intro wS hSw; (try dsimp only at hSw); have kq := (hSw ⟨w.heap.size, 2, none⟩).trans k1; have kq2 := (hSw ⟨b, o + k * 22 + 20, none⟩).trans ke; go_simp <;> with_reducible rfl)
        simp only [Act.put, List.setIfInBounds_toArray, List.set_cons_zero, List.set_cons_succ]
        refine wpAnyH_take (i := 4) (oi := { dst := some 20, op := Op.fieldAddr 74 (Operand.tmp 19) 0, type := 0, pos := "ref.go:44", after := #[{ on := 3, ground := Ground.data }], guard := none }) (v := ?vq4c) rfl (by as_aux_lemma => kernel_rfl) (by as_aux_lemma => kernel_rfl) (by as_aux_lemma => kernel_rfl) (fun _ _ _ h => h) (Or.inl ⟨by rfl, ?yq4c⟩) (by assumption) ?rq4c
        case yq4c => (intro wS hSw; (try dsimp only at hSw); have kq := (hSw ⟨w.heap.size, 2, none⟩).trans k1; have kq2 := (hSw ⟨b, o + k * 22 + 20, none⟩).trans ke; go_simp <;> with_reducible rfl)
        simp only [Act.put, List.setIfInBounds_toArray, List.set_cons_zero, List.set_cons_succ]
        refine wpAnyH_take (i := 5) (oi := { dst := some 21, op := Op.load 29 (Operand.tmp 20), type := 29, pos := "ref.go:44", after := #[{ on := 4, ground := Ground.data }], guard := none }) (v := .agg (adC c.1)) rfl (by as_aux_lemma => kernel_rfl) (by as_aux_lemma => kernel_rfl) (by as_aux_lemma => kernel_rfl) (fun _ _ _ h => h) (yieldsIf_load_A (by rfl) 29 (.tmp 20) rfl (b) (o + k * 22) rfl (adC c.1) _ (fun w hw => by rw [adC_list]; exact range_same (rl_addr HS.out.2.2.2.1) hw) und_addr rfl (by rw [info_addr, adC_size HS.out.2.2.2.2.2.1])) (by assumption) ?_
        simp only [Act.put, List.setIfInBounds_toArray, List.set_cons_zero, List.set_cons_succ]
        refine wpAnyH_take (i := 6) (oi := { dst := some 22, op := Op.load 29 (Operand.tmp 4), type := 29, pos := "ref.go:44", after := #[], guard := none }) (v := .agg (adC a)) rfl (by as_aux_lemma => kernel_rfl) (by as_aux_lemma => kernel_rfl) (by as_aux_lemma => kernel_rfl) (fun _ _ _ h => h) (yieldsIf_load_A (by rfl) 29 (.tmp 4) rfl (w.heap.size + 1) (0) rfl (adC a) _ (fun w hw => range_same HS.out.2.2.2.2.1.range hw) und_addr rfl (by rw [info_addr, adC_size HS.out.2.2.2.2.2.2.1])) (by assumption) ?_
        simp only [Act.put, List.setIfInBounds_toArray, List.set_cons_zero, List.set_cons_succ]
        refine wpAnyH_take (i := 7) (oi := { dst := some 23, op := Op.binOp BinOp.eql 29 (Operand.tmp 21) (Operand.tmp 22) 29, type := 4, pos := "ref.go:44", after := #[{ on := 5, ground := Ground.data }, { on := 6, ground := Ground.data }], guard := none }) (v := ?vq7c) rfl (by as_aux_lemma => kernel_rfl) (by as_aux_lemma => kernel_rfl) (by as_aux_lemma => kernel_rfl) (fun _ _ _ h => h) (Or.inl ⟨by rfl, ?yq7c⟩) (by assumption) ?rq7c
        case yq7c => (intro wS hSw; (try dsimp only at hSw); have kq := (hSw ⟨w.heap.size, 2, none⟩).trans k1; have kq2 := (hSw ⟨b, o + k * 22 + 20, none⟩).trans ke; go_simp <;> with_reducible rfl)
        simp only [Act.put, List.setIfInBounds_toArray, List.set_cons_zero, List.set_cons_succ]
        refine wpAnyH_take (i := 8) (oi := { dst := some 24, op := Op.move (Operand.tmp 23), type := 4, pos := "ref.go:44", after := #[{ on := 7, ground := Ground.data }], guard := none }) (v := ?vq8c) rfl (by as_aux_lemma => kernel_rfl) (by as_aux_lemma => kernel_rfl) (by as_aux_lemma => kernel_rfl) (fun _ _ _ h => h) (Or.inl ⟨by rfl, ?yq8c⟩) (by assumption) ?rq8c
        case yq8c => (intro wS hSw; (try dsimp only at hSw); have kq := (hSw ⟨w.heap.size, 2, none⟩).trans k1; have kq2 := (hSw ⟨b, o + k * 22 + 20, none⟩).trans ke; go_simp <;> with_reducible rfl)
        simp only [Act.put, List.setIfInBounds_toArray, List.set_cons_zero, List.set_cons_succ]
        refine wpAnyH_take (i := 9) (oi := { dst := some 25, op := Op.fieldAddr 27 (Operand.tmp 3) 2, type := 0, pos := "ref.go:44", after := #[{ on := 8, ground := Ground.guard }], guard := some (8, true) }) (v := undef) rfl (by as_aux_lemma => kernel_rfl) (by as_aux_lemma => kernel_rfl) (by as_aux_lemma => kernel_rfl) (fun _ _ _ h => h) (Or.inr ⟨by rfl, rfl⟩) (by assumption) ?_
        simp only [Act.put, List.setIfInBounds_toArray, List.set_cons_zero, List.set_cons_succ]
        refine wpAnyH_take (i := 10) (oi := { dst := some 26, op := Op.load 25 (Operand.tmp 25), type := 25, pos := "ref.go:44", after := #[{ on := 9, ground := Ground.data }, { on := 8, ground := Ground.guard }], guard := some (8, true) }) (v := undef) rfl (by as_aux_lemma => kernel_rfl) (by as_aux_lemma => kernel_rfl) (by as_aux_lemma => kernel_rfl) (fun _ _ _ h => h) (Or.inr ⟨by rfl, rfl⟩) (by assumption) ?_
        simp only [Act.put, List.setIfInBounds_toArray, List.set_cons_zero, List.set_cons_succ]
        refine wpAnyH_take (i := 11) (oi := { dst := some 27, op := Op.move (Operand.tmp 8), type := 3, pos := "ref.go:44", after := #[{ on := 8, ground := Ground.guard }], guard := some (8, true) }) (v := undef) rfl (by as_aux_lemma => kernel_rfl) (by as_aux_lemma => kernel_rfl) (by as_aux_lemma => kernel_rfl) (fun _ _ _ h => h) (Or.inr ⟨by rfl, rfl⟩) (by assumption) ?_
        simp only [Act.put, List.setIfInBounds_toArray, List.set_cons_zero, List.set_cons_succ]
        refine wpAnyH_take (i := 12) (oi := { dst := some 28, op := Op.indexAddr 25 (Operand.tmp 26) (Operand.tmp 27), type := 0, pos := "ref.go:44", after := #[{ on := 10, ground := Ground.data }, { on := 11, ground := Ground.data }, { on := 8, ground := Ground.guard }], guard := some (8, true) }) (v := undef) rfl (by as_aux_lemma => kernel_rfl) (by as_aux_lemma => kernel_rfl) (by as_aux_lemma => kernel_rfl) (fun _ _ _ h => h) (Or.inr ⟨by rfl, rfl⟩) (by assumption) ?_
        simp only [Act.put, List.setIfInBounds_toArray, List.set_cons_zero, List.set_cons_succ]
        refine wpAnyH_take (i := 13) (oi := { dst := some 29, op := Op.fieldAddr 74 (Operand.tmp 28) 1, type := 0, pos := "ref.go:44", after := #[{ on := 12, ground := Ground.data }, { on := 8, ground := Ground.guard }], guard := some (8, true) }) (v := undef) rfl (by as_aux_lemma => kernel_rfl) (by as_aux_lemma => kernel_rfl) (by as_aux_lemma => kernel_rfl) (fun _ _ _ h => h) (Or.inr ⟨by rfl, rfl⟩) (by assumption) ?_
        simp only [Act.put, List.setIfInBounds_toArray, List.set_cons_zero, List.set_cons_succ]
        refine wpAnyH_take (i := 14) (oi := { dst := some 30, op := Op.load 30 (Operand.tmp 29), type := 30, pos := "ref.go:44", after := #[{ on := 13, ground := Ground.data }, { on := 8, ground := Ground.guard }], guard := some (8, true) }) (v := undef) rfl (by as_aux_lemma => kernel_rfl) (by as_aux_lemma => kernel_rfl) (by as_aux_lemma => kernel_rfl) (fun _ _ _ h => h) (Or.inr ⟨by rfl, rfl⟩) (by assumption) ?_
        simp only [Act.put, List.setIfInBounds_toArray, List.set_cons_zero, List.set_cons_succ]
        refine wpAnyH_take (i := 15) (oi := { dst := some 31, op := Op.move (Operand.tmp 2), type := 30, pos := "ref.go:44", after := #[{ on := 8, ground := Ground.guard }], guard := some (8, true) }) (v := undef) rfl (by as_aux_lemma => kernel_rfl) (by as_aux_lemma => kernel_rfl) (by as_aux_lemma => kernel_rfl) (fun _ _ _ h => h) (Or.inr ⟨by rfl, rfl⟩) (by assumption) ?_
        simp only [Act.put, List.setIfInBounds_toArray, List.set_cons_zero, List.set_cons_succ]
        refine wpAnyH_take (i := 16) (oi := { dst := some 32, op := Op.binOp BinOp.eql 30 (Operand.tmp 30) (Operand.tmp 31) 30, type := 4, pos := "ref.go:44", after := #[{ on := 14, ground := Ground.data }, { on := 15, ground := Ground.data }, { on := 8, ground := Ground.guard }], guard := some (8, true) }) (v := undef) rfl (by as_aux_lemma => kernel_rfl) (by as_aux_lemma => kernel_rfl) (by as_aux_lemma => kernel_rfl) (fun _ _ _ h => h) (Or.inr ⟨by rfl, rfl⟩) (by assumption) ?_
        simp only [Act.put, List.setIfInBounds_toArray, List.set_cons_zero, List.set_cons_succ]
        refine wpAnyH_take (i := 17) (oi := { dst := some 33, op := Op.pick (Operand.tmp 24) (Operand.tmp 32) (Operand.const (Value.bool false)), type := 4, pos := "ref.go:44", after := #[{ on := 8, ground := Ground.data }, { on := 16, ground := Ground.data }], guard := none }) (v := ?vq17c) rfl (by as_aux_lemma => kernel_rfl) (by as_aux_lemma => kernel_rfl) (by as_aux_lemma => kernel_rfl) (fun _ _ _ h => h) (Or.inl ⟨by rfl, ?yq17c⟩) (by assumption) ?rq17c
        case yq17c => (intro wS hSw; (try dsimp only at hSw); have kq := (hSw ⟨w.heap.size, 2, none⟩).trans k1; have kq2 := (hSw ⟨b, o + k * 22 + 20, none⟩).trans ke; go_simp <;> with_reducible rfl)
        simp only [Act.put, List.setIfInBounds_toArray, List.set_cons_zero, List.set_cons_succ]
        refine wpAnyH_done (by as_aux_lemma => kernel_rfl) ?_ _
        clear hHeld hQ
        go_wp2_with fail
        exact ⟨⟨k + 1, by omega, congrArg (Value.int .i64) (by omega), HS.out.2.2.1.trans ⟨rfl, rfl, rfl, Nat.le_refl _, fun _ _ => rfl⟩, HT.out⟩, by simp [intOf]; omega⟩
    · obtain rfl : n = k := by omega
      have he : trg a e rs = none := by rw [hcl, List.drop_of_length_le (by rw [HN.out]; exact Nat.le_refl _)]; rfl
      have HE := Lib.hid he
      clear he hcl hXw b1 b2 hW hcs ha hb1
      go_wp2_with fail
      go_ret2
      rw [HE.out]
      exact ⟨rfl, hWr⟩
end Go.Proofs.YtenepkgjdoddgaaGreatDoor
