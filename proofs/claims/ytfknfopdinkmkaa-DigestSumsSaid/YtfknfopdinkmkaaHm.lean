/- digest's law: DigestSums: the walk. -/
import Derived.Test.YtfknfopdinkmkaaHl
import Derived.Test.YtfknfopdinkmkaaHg
import Derived.Test.YtfknfopdinkmkaaPb
import Derived.Deep.RegionHeld3
namespace Go.Proofs.Ytfknfopdinkmkaa
open Go.RowKit Go.Shelf
attribute [local irreducible] lb Fc Bc jn tot pdB pq pqC blP bkL ln rot stN tnP rsN rnds dgst
theorem eq32 (d : Nat) (w : World) : (binOp .eql 24 (.agg (byC d 32)) (.agg (byC d 32))).run Try.prog w = .ok (.bool true) w := by
  obtain ⟨i, hi⟩ : ∃ i, Try.prog.info? 5 = some i := Option.isSome_iff_exists.1 (by kernel_rfl)
  have h := run_eql_ints und31 (show Try.prog.underlying 5 = some (.int .u8) by kernel_rfl) hi (by kernel_rfl) (byC d 32) (byC d 32) (fun j => (byA d (31 - j) : Nat)) (fun j => (byA d (31 - j) : Nat)) (fun j hj => ⟨by rw [byC_get _ _ _ hj, if_pos (by omega)], by rw [byC_get _ _ _ hj, if_pos (by omega)]⟩) w
  rw [h]
  simp
theorem cutTo (x : Option Addr) (m k c : Nat) (hk : k ≤ c) (w : World) : (Instr.slice 22 (.slice x m c) none (some (.int .i64 (k : Nat))) none).run Try.prog w = .ok (.slice x k c) w := by
  have h := run_slice_h (P := Try.prog) (w := w) (t := 22) (a := x) (len := m) (cap := c) (ht := by kernel_rfl) .i64 (k : Int) (by omega) (by omega)
  rw [h, show Try.prog.elem 22 = 5 by kernel_rfl, show (sizeOf 5).run Try.prog w = .ok 1 w by kernel_rfl]
  simp only [Result.andThen_ok, sliced, Int.toNat_natCast, Nat.sub_zero]
  have he : (if c = 0 then x else x.map (·.add (0 * 1))) = x := by
    split
    · rfl
    · cases x with
      | none => rfl
      | some a => rfl
  rw [he]

set_option maxRecDepth 100000 in
set_option maxHeartbeats 4000000 in
theorem sums_walk (x : Option Addr) (n cap c : Nat) (f : Nat → Nat) (hn : n ≤ 500) (hc : c ≤ n) (w : World)
    (hv : (Value.slice x n cap = .slice none 0 0 ∧ n = 0) ∨ ∃ a q, Value.slice x n cap = .slice (some a) n q) (hs : SlAt w ⟨.slice x n cap, n, f⟩) :
    Calls Try.prog 3 #[.slice x n cap, .int .i64 (c : Nat)] w fun e w' => e = .returned (.bool true) ∧ Below w.heap.size w w' := by
  have hnI : ¬ ((500 : Int) < (n : Int)) := by omega
  have hc0 : ¬ ((c : Int) < 0) := by omega
  have hcn : ¬ ((n : Int) < (c : Int)) := by omega
  have hcap : n ≤ cap ∧ cap ≤ 9223372036854775807 := by
    obtain ⟨x', cap', h1, h2, h3, _⟩ := hs
    cases h1
    exact ⟨h2, h3⟩
  obtain ⟨y, l2, cap2, hsd⟩ : ∃ y l2 cap2, sliced x c n cap 1 = .slice y l2 cap2 := ⟨_, _, _, rfl⟩
  have hfrom : ∀ w, (Instr.slice 22 (.slice x n cap) (some (.int .i64 (c : Nat))) none none).run Try.prog w = .ok (.slice y (n - c) cap2) w := fun w => by
    rw [cutFrom x n c cap hc w, hsd]
    unfold sliced at hsd
    injection hsd with e1 e2 e3
    rw [← e2]
  have hy2 : (c < n → ∀ b o, x = some ⟨b, o, none⟩ → y = some ⟨b, o + c, none⟩) ∧ n - c ≤ cap2 ∧ cap2 ≤ 9223372036854775807 := by
    unfold sliced at hsd
    injection hsd with e1 e2 e3
    refine ⟨fun h b o hx => ?_, by omega, by omega⟩
    rw [if_neg (by omega), hx] at e1
    rw [← e1]
    show some (Addr.add ⟨b, o, none⟩ (c * 1)) = _
    rw [Go.WideShapes.add_plain, Nat.mul_one]
  have hto := fun w => cutTo x n c cap (by omega) w
  have S1 := Lib.hid (fun X (h : SlAt X ⟨.slice x n cap, n, f⟩) => sum_one x n cap f (by omega) X h)
  have S2 := Lib.hid (fun X (h : SlAt X ⟨.slice x n cap, n, f⟩) => sum_two x y n cap c cap2 f (by omega) hc X (h.to hc) (h.from hc hy2.1 hy2.2.1 hy2.2.2))
  have S4 := Lib.hid (fun X (h : SlAt X ⟨.slice x n cap, n, f⟩) => sum_four x y n cap c cap2 f (by omega) hc X (h.to hc) (h.from hc hy2.1 hy2.2.1 hy2.2.2))
  have WD := Lib.hid (fun X (h : SlAt X ⟨.slice x n cap, n, f⟩) => dword_any x n cap f (by omega) X h)
  have RW := Lib.hid (fun X (h : SlAt X ⟨.slice x n cap, n, f⟩) => rdword_any x n cap f (by omega) X hv h)
  have RS := Lib.hid (rsum_dg x n cap f (by omega) w hv hs)
  have HS := Lib.hid (SlB.new (B := w.heap.size) (s := ⟨.slice x n cap, n, f⟩) hs (Below.refl _ _))
  obtain ⟨d, hd⟩ : ∃ d, dgst n f = d := ⟨_, rfl⟩
  rw [hd] at S1 S2 S4 WD RW RS
  obtain ⟨m, hm⟩ : ∃ m, n - c = m := ⟨_, rfl⟩
  rw [hm] at hfrom S2 S4
  clear hv hs hn hc hcap hsd hy2 hd hm
  go_enter Try.func3, Try.ntmps3
  go_wp2_with fail
  refine RS.out.mono ?_
  rintro e w1 ⟨rfl, h1⟩
  rename_i K hK
  refine hK _ _ ?_
  clear hK K RS
  refine wpList_plain rfl fun K hK => ?_
  go_simp
  refine hK _ _ ?_
  clear hK K
  rw [← byC_zero 0]
  refine wpList_store_row rfl 24 (.tmp 5) (.tmp 21) rfl w1.heap.size (byC d 32) rfl rfl 24 (byC 0 0) (Blk.new w1 _ _) (by rw [byC_size]; kernel_rfl) (by rw [byC_size, byC_size]) (byC_one _ _) (wpList_nil ?_)
  rw [World.setRow_alloc_new]
  have hD := Blk.new w1 24 (byC d 32)
  have hW := balloc h1 (.cells (byC d 32) 24)
  obtain ⟨w2, hw2⟩ : ∃ w2, w1.alloc (.cells (byC d 32) 24) = w2 := ⟨_, rfl⟩
  rw [hw2] at hD hW ⊢
  clear hw2 h1
  generalize w1.heap.size = g5 at hD ⊢
  have hSl : ∀ X, Below w2.heap.size w2 X → SlAt X ⟨.slice x n cap, n, f⟩ := fun X h => (HS.out.new (bstep hW h)).at (bstep hW h).size
  have SL := Lib.hid hSl
  clear HS hSl
  have HX := Lib.hid (And.intro hD hW)
  clear hD hW
  go_upto_region 4 with fail
  have he32 := eq32 d
  have heW : ∀ w, (binOp .eql 29 (W d) (W d)).run Try.prog w = .ok (.bool true) w := fun w => by rw [eqW]; simp
  have h0S : Below w2.heap.size w2 w2.drew := (Below.refl _ _).drew
  refine wp_region_held_drew (S := fun w' => Below w2.heap.size w2 w') (by as_aux_lemma => kernel_rfl) h0S (fun hHeld => ?_)
  simp only [List.size_toArray, List.length_cons, List.length_nil, Nat.reduceAdd, Array.replicate_succ, Array.replicate_zero, List.push_toArray, List.nil_append, List.cons_append]
  refine wpAnyH_take (i := 0) (oi := { dst := some 22, op := Op.move (Operand.tmp 0), type := 22, pos := "law.go:32", after := #[], guard := none }) (v := ?vq0) rfl (by as_aux_lemma => kernel_rfl) (by as_aux_lemma => kernel_rfl) (by as_aux_lemma => kernel_rfl) (fun _ _ _ h => h) (Or.inl ⟨by rfl, ?yq0⟩) (by assumption) ?rq0
  case yq0 => (intro w hSw; (try dsimp only at hSw); go_simp <;> with_reducible rfl)
  simp only [Act.put, List.setIfInBounds_toArray, List.set_cons_zero, List.set_cons_succ]
  refine wpAnyH_take (i := 3) (oi := { dst := some 25, op := Op.load 24 (Operand.tmp 5), type := 24, pos := "law.go:32", after := #[], guard := none }) (v := .agg (byC d 32)) rfl (by as_aux_lemma => kernel_rfl) (by as_aux_lemma => kernel_rfl) (by as_aux_lemma => kernel_rfl) (fun _ _ _ h => h) (yieldsIf_load_A (by rfl) 24 (.tmp 5) rfl g5 0 rfl (byC d 32) _ (fun w hw => (HX.out.1.keep hw).rangeAt) und31 rfl (by rw [byC_size]; kernel_rfl)) (by assumption) ?_
  simp only [Act.put, List.setIfInBounds_toArray, List.set_cons_zero, List.set_cons_succ]
  refine wpAnyH_ready (rs := [1]) (by as_aux_lemma => kernel_rfl) (by simp) ?_
  refine AllReadyH.cons (o := { dst := some 23, op := Op.buildSlice 45 1 #[(0, Operand.tmp 22)], type := 45, pos := "law.go:32", after := #[{ on := 0, ground := Ground.data }], guard := none }) rfl (fun K hK => ?_) (by exact AllReadyH.nil)
  rw [if_pos (by rfl)]
  go_simp
  refine hK.out _ _ (by (try dsimp only); (first | assumption | exact rstep (by assumption) (by assumption) | exact balloc (by assumption) _)) (fun hHeld => ?_)
  clear hK K
  simp only [List.setIfInBounds_toArray, List.set_cons_zero, List.set_cons_succ]
  refine wpAnyH_ready (rs := [2]) (by as_aux_lemma => kernel_rfl) (by simp) ?_
  refine AllReadyH.cons (o := { dst := some 24, op := Op.call { callee := Callee.value (Operand.func 7), args := #[Operand.tmp 23], argTypes := #[45] }, type := 24, pos := "law.go:32", after := #[{ on := 1, ground := Ground.data }], guard := none }) rfl (fun K hK => ?_) (by exact AllReadyH.nil)
  rw [if_pos (by rfl)]
  go_simp
  (go_at_call 7; refine (S1.out w2.drew (SL.out w2.drew (by assumption))).mono ?_; rintro e wk2 ⟨rfl, hk2⟩)
  refine hK.out _ _ (by (try dsimp only); (first | assumption | exact rstep (by assumption) (by assumption) | exact balloc (by assumption) _)) (fun hHeld => ?_)
  clear hK K
  simp only [List.setIfInBounds_toArray, List.set_cons_zero, List.set_cons_succ]
  refine wpAnyH_take (i := 4) (oi := { dst := some 26, op := Op.binOp BinOp.eql 24 (Operand.tmp 24) (Operand.tmp 25) 24, type := 4, pos := "law.go:32", after := #[{ on := 2, ground := Ground.data }, { on := 3, ground := Ground.data }], guard := none }) (v := ?vq4) rfl (by as_aux_lemma => kernel_rfl) (by as_aux_lemma => kernel_rfl) (by as_aux_lemma => kernel_rfl) (fun _ _ _ h => h) (Or.inl ⟨by rfl, ?yq4⟩) (by assumption) ?rq4
  case yq4 => (intro w hSw; (try dsimp only at hSw); go_simp <;> with_reducible rfl)
  simp only [Act.put, List.setIfInBounds_toArray, List.set_cons_zero, List.set_cons_succ]
  refine wpAnyH_take (i := 5) (oi := { dst := some 27, op := Op.move (Operand.tmp 26), type := 4, pos := "law.go:32", after := #[{ on := 4, ground := Ground.data }, { on := 2, ground := Ground.chain }], guard := none }) (v := ?vq5) rfl (by as_aux_lemma => kernel_rfl) (by as_aux_lemma => kernel_rfl) (by as_aux_lemma => kernel_rfl) (fun _ _ _ h => h) (Or.inl ⟨by rfl, ?yq5⟩) (by assumption) ?rq5
  case yq5 => (intro w hSw; (try dsimp only at hSw); go_simp <;> with_reducible rfl)
  simp only [Act.put, List.setIfInBounds_toArray, List.set_cons_zero, List.set_cons_succ]
  refine wpAnyH_take (i := 6) (oi := { dst := some 28, op := Op.move (Operand.tmp 0), type := 22, pos := "law.go:32", after := #[{ on := 5, ground := Ground.guard }], guard := some (5, true) }) (v := ?vq6) rfl (by as_aux_lemma => kernel_rfl) (by as_aux_lemma => kernel_rfl) (by as_aux_lemma => kernel_rfl) (fun _ _ _ h => h) (Or.inl ⟨by rfl, ?yq6⟩) (by assumption) ?rq6
  case yq6 => (intro w hSw; (try dsimp only at hSw); go_simp <;> with_reducible rfl)
  simp only [Act.put, List.setIfInBounds_toArray, List.set_cons_zero, List.set_cons_succ]
  refine wpAnyH_take (i := 7) (oi := { dst := some 29, op := Op.move (Operand.tmp 1), type := 3, pos := "law.go:32", after := #[{ on := 5, ground := Ground.guard }], guard := some (5, true) }) (v := ?vq7) rfl (by as_aux_lemma => kernel_rfl) (by as_aux_lemma => kernel_rfl) (by as_aux_lemma => kernel_rfl) (fun _ _ _ h => h) (Or.inl ⟨by rfl, ?yq7⟩) (by assumption) ?rq7
  case yq7 => (intro w hSw; (try dsimp only at hSw); go_simp <;> with_reducible rfl)
  simp only [Act.put, List.setIfInBounds_toArray, List.set_cons_zero, List.set_cons_succ]
  refine wpAnyH_take (i := 8) (oi := { dst := some 30, op := Op.slice 22 (Operand.tmp 28) none (some (Operand.tmp 29)) none, type := 22, pos := "law.go:32", after := #[{ on := 6, ground := Ground.data }, { on := 7, ground := Ground.data }, { on := 5, ground := Ground.guard }], guard := some (5, true) }) (v := ?vq8) rfl (by as_aux_lemma => kernel_rfl) (by as_aux_lemma => kernel_rfl) (by as_aux_lemma => kernel_rfl) (fun _ _ _ h => h) (Or.inl ⟨by rfl, ?yq8⟩) (by assumption) ?rq8
  case yq8 => (intro w hSw; (try dsimp only at hSw); go_simp <;> with_reducible rfl)
  simp only [Act.put, List.setIfInBounds_toArray, List.set_cons_zero, List.set_cons_succ]
  refine wpAnyH_take (i := 9) (oi := { dst := some 31, op := Op.move (Operand.tmp 0), type := 22, pos := "law.go:32", after := #[{ on := 5, ground := Ground.guard }], guard := some (5, true) }) (v := ?vq9) rfl (by as_aux_lemma => kernel_rfl) (by as_aux_lemma => kernel_rfl) (by as_aux_lemma => kernel_rfl) (fun _ _ _ h => h) (Or.inl ⟨by rfl, ?yq9⟩) (by assumption) ?rq9
  case yq9 => (intro w hSw; (try dsimp only at hSw); go_simp <;> with_reducible rfl)
  simp only [Act.put, List.setIfInBounds_toArray, List.set_cons_zero, List.set_cons_succ]
  refine wpAnyH_take (i := 10) (oi := { dst := some 32, op := Op.move (Operand.tmp 1), type := 3, pos := "law.go:32", after := #[{ on := 5, ground := Ground.guard }], guard := some (5, true) }) (v := ?vq10) rfl (by as_aux_lemma => kernel_rfl) (by as_aux_lemma => kernel_rfl) (by as_aux_lemma => kernel_rfl) (fun _ _ _ h => h) (Or.inl ⟨by rfl, ?yq10⟩) (by assumption) ?rq10
  case yq10 => (intro w hSw; (try dsimp only at hSw); go_simp <;> with_reducible rfl)
  simp only [Act.put, List.setIfInBounds_toArray, List.set_cons_zero, List.set_cons_succ]
  refine wpAnyH_take (i := 11) (oi := { dst := some 33, op := Op.slice 22 (Operand.tmp 31) (some (Operand.tmp 32)) none none, type := 22, pos := "law.go:32", after := #[{ on := 9, ground := Ground.data }, { on := 10, ground := Ground.data }, { on := 5, ground := Ground.guard }], guard := some (5, true) }) (v := ?vq11) rfl (by as_aux_lemma => kernel_rfl) (by as_aux_lemma => kernel_rfl) (by as_aux_lemma => kernel_rfl) (fun _ _ _ h => h) (Or.inl ⟨by rfl, ?yq11⟩) (by assumption) ?rq11
  case yq11 => (intro w hSw; (try dsimp only at hSw); go_simp <;> with_reducible rfl)
  simp only [Act.put, List.setIfInBounds_toArray, List.set_cons_zero, List.set_cons_succ]
  refine wpAnyH_take (i := 14) (oi := { dst := some 36, op := Op.load 24 (Operand.tmp 5), type := 24, pos := "law.go:32", after := #[{ on := 5, ground := Ground.guard }], guard := some (5, true) }) (v := .agg (byC d 32)) rfl (by as_aux_lemma => kernel_rfl) (by as_aux_lemma => kernel_rfl) (by as_aux_lemma => kernel_rfl) (fun _ _ _ h => h) (yieldsIf_load_A (by rfl) 24 (.tmp 5) rfl g5 0 rfl (byC d 32) _ (fun w hw => (HX.out.1.keep hw).rangeAt) und31 rfl (by rw [byC_size]; kernel_rfl)) (by assumption) ?_
  simp only [Act.put, List.setIfInBounds_toArray, List.set_cons_zero, List.set_cons_succ]
  refine wpAnyH_ready (rs := [12]) (by as_aux_lemma => kernel_rfl) (by simp) ?_
  refine AllReadyH.cons (o := { dst := some 34, op := Op.buildSlice 45 2 #[(0, Operand.tmp 30), (1, Operand.tmp 33)], type := 45, pos := "law.go:32", after := #[{ on := 8, ground := Ground.data }, { on := 11, ground := Ground.data }, { on := 5, ground := Ground.guard }], guard := some (5, true) }) rfl (fun K hK => ?_) (by exact AllReadyH.nil)
  rw [if_pos (by rfl)]
  go_simp
  refine hK.out _ _ (by (try dsimp only); (first | assumption | exact rstep (by assumption) (by assumption) | exact balloc (by assumption) _)) (fun hHeld => ?_)
  clear hK K
  simp only [List.setIfInBounds_toArray, List.set_cons_zero, List.set_cons_succ]
  refine wpAnyH_ready (rs := [13]) (by as_aux_lemma => kernel_rfl) (by simp) ?_
  refine AllReadyH.cons (o := { dst := some 35, op := Op.call { callee := Callee.value (Operand.func 7), args := #[Operand.tmp 34], argTypes := #[45] }, type := 24, pos := "law.go:32", after := #[{ on := 12, ground := Ground.data }, { on := 5, ground := Ground.chain }, { on := 5, ground := Ground.guard }], guard := some (5, true) }) rfl (fun K hK => ?_) (by exact AllReadyH.nil)
  rw [if_pos (by rfl)]
  go_simp
  (go_at_call 7; refine (S2.out wk2 (SL.out wk2 (by assumption))).mono ?_; rintro e wk13 ⟨rfl, hk13⟩)
  refine hK.out _ _ (by (try dsimp only); (first | assumption | exact rstep (by assumption) (by assumption) | exact balloc (by assumption) _)) (fun hHeld => ?_)
  clear hK K
  simp only [List.setIfInBounds_toArray, List.set_cons_zero, List.set_cons_succ]
  refine wpAnyH_take (i := 15) (oi := { dst := some 37, op := Op.binOp BinOp.eql 24 (Operand.tmp 35) (Operand.tmp 36) 24, type := 4, pos := "law.go:32", after := #[{ on := 13, ground := Ground.data }, { on := 14, ground := Ground.data }, { on := 5, ground := Ground.guard }], guard := some (5, true) }) (v := ?vq15) rfl (by as_aux_lemma => kernel_rfl) (by as_aux_lemma => kernel_rfl) (by as_aux_lemma => kernel_rfl) (fun _ _ _ h => h) (Or.inl ⟨by rfl, ?yq15⟩) (by assumption) ?rq15
  case yq15 => (intro w hSw; (try dsimp only at hSw); go_simp <;> with_reducible rfl)
  simp only [Act.put, List.setIfInBounds_toArray, List.set_cons_zero, List.set_cons_succ]
  refine wpAnyH_take (i := 16) (oi := { dst := some 38, op := Op.pick (Operand.tmp 27) (Operand.tmp 37) (Operand.const (Value.bool false)), type := 4, pos := "law.go:32", after := #[{ on := 5, ground := Ground.data }, { on := 15, ground := Ground.data }], guard := none }) (v := ?vq16) rfl (by as_aux_lemma => kernel_rfl) (by as_aux_lemma => kernel_rfl) (by as_aux_lemma => kernel_rfl) (fun _ _ _ h => h) (Or.inl ⟨by rfl, ?yq16⟩) (by assumption) ?rq16
  case yq16 => (intro w hSw; (try dsimp only at hSw); go_simp <;> with_reducible rfl)
  simp only [Act.put, List.setIfInBounds_toArray, List.set_cons_zero, List.set_cons_succ]
  refine wpAnyH_take (i := 17) (oi := { dst := some 39, op := Op.move (Operand.tmp 38), type := 4, pos := "law.go:32", after := #[{ on := 16, ground := Ground.data }, { on := 13, ground := Ground.chain }], guard := none }) (v := ?vq17) rfl (by as_aux_lemma => kernel_rfl) (by as_aux_lemma => kernel_rfl) (by as_aux_lemma => kernel_rfl) (fun _ _ _ h => h) (Or.inl ⟨by rfl, ?yq17⟩) (by assumption) ?rq17
  case yq17 => (intro w hSw; (try dsimp only at hSw); go_simp <;> with_reducible rfl)
  simp only [Act.put, List.setIfInBounds_toArray, List.set_cons_zero, List.set_cons_succ]
  refine wpAnyH_take (i := 18) (oi := { dst := some 40, op := Op.move (Operand.tmp 0), type := 22, pos := "law.go:32", after := #[{ on := 17, ground := Ground.guard }], guard := some (17, true) }) (v := ?vq18) rfl (by as_aux_lemma => kernel_rfl) (by as_aux_lemma => kernel_rfl) (by as_aux_lemma => kernel_rfl) (fun _ _ _ h => h) (Or.inl ⟨by rfl, ?yq18⟩) (by assumption) ?rq18
  case yq18 => (intro w hSw; (try dsimp only at hSw); go_simp <;> with_reducible rfl)
  simp only [Act.put, List.setIfInBounds_toArray, List.set_cons_zero, List.set_cons_succ]
  refine wpAnyH_take (i := 19) (oi := { dst := some 41, op := Op.move (Operand.tmp 1), type := 3, pos := "law.go:32", after := #[{ on := 17, ground := Ground.guard }], guard := some (17, true) }) (v := ?vq19) rfl (by as_aux_lemma => kernel_rfl) (by as_aux_lemma => kernel_rfl) (by as_aux_lemma => kernel_rfl) (fun _ _ _ h => h) (Or.inl ⟨by rfl, ?yq19⟩) (by assumption) ?rq19
  case yq19 => (intro w hSw; (try dsimp only at hSw); go_simp <;> with_reducible rfl)
  simp only [Act.put, List.setIfInBounds_toArray, List.set_cons_zero, List.set_cons_succ]
  refine wpAnyH_take (i := 20) (oi := { dst := some 42, op := Op.slice 22 (Operand.tmp 40) none (some (Operand.tmp 41)) none, type := 22, pos := "law.go:32", after := #[{ on := 18, ground := Ground.data }, { on := 19, ground := Ground.data }, { on := 17, ground := Ground.guard }], guard := some (17, true) }) (v := ?vq20) rfl (by as_aux_lemma => kernel_rfl) (by as_aux_lemma => kernel_rfl) (by as_aux_lemma => kernel_rfl) (fun _ _ _ h => h) (Or.inl ⟨by rfl, ?yq20⟩) (by assumption) ?rq20
  case yq20 => (intro w hSw; (try dsimp only at hSw); go_simp <;> with_reducible rfl)
  simp only [Act.put, List.setIfInBounds_toArray, List.set_cons_zero, List.set_cons_succ]
  refine wpAnyH_take (i := 21) (oi := { dst := some 43, op := Op.move (Operand.tmp 0), type := 22, pos := "law.go:32", after := #[{ on := 17, ground := Ground.guard }], guard := some (17, true) }) (v := ?vq21) rfl (by as_aux_lemma => kernel_rfl) (by as_aux_lemma => kernel_rfl) (by as_aux_lemma => kernel_rfl) (fun _ _ _ h => h) (Or.inl ⟨by rfl, ?yq21⟩) (by assumption) ?rq21
  case yq21 => (intro w hSw; (try dsimp only at hSw); go_simp <;> with_reducible rfl)
  simp only [Act.put, List.setIfInBounds_toArray, List.set_cons_zero, List.set_cons_succ]
  refine wpAnyH_take (i := 22) (oi := { dst := some 44, op := Op.move (Operand.tmp 1), type := 3, pos := "law.go:32", after := #[{ on := 17, ground := Ground.guard }], guard := some (17, true) }) (v := ?vq22) rfl (by as_aux_lemma => kernel_rfl) (by as_aux_lemma => kernel_rfl) (by as_aux_lemma => kernel_rfl) (fun _ _ _ h => h) (Or.inl ⟨by rfl, ?yq22⟩) (by assumption) ?rq22
  case yq22 => (intro w hSw; (try dsimp only at hSw); go_simp <;> with_reducible rfl)
  simp only [Act.put, List.setIfInBounds_toArray, List.set_cons_zero, List.set_cons_succ]
  refine wpAnyH_take (i := 23) (oi := { dst := some 45, op := Op.slice 22 (Operand.tmp 43) (some (Operand.tmp 44)) none none, type := 22, pos := "law.go:32", after := #[{ on := 21, ground := Ground.data }, { on := 22, ground := Ground.data }, { on := 17, ground := Ground.guard }], guard := some (17, true) }) (v := ?vq23) rfl (by as_aux_lemma => kernel_rfl) (by as_aux_lemma => kernel_rfl) (by as_aux_lemma => kernel_rfl) (fun _ _ _ h => h) (Or.inl ⟨by rfl, ?yq23⟩) (by assumption) ?rq23
  case yq23 => (intro w hSw; (try dsimp only at hSw); go_simp <;> with_reducible rfl)
  simp only [Act.put, List.setIfInBounds_toArray, List.set_cons_zero, List.set_cons_succ]
  refine wpAnyH_take (i := 26) (oi := { dst := some 48, op := Op.load 24 (Operand.tmp 5), type := 24, pos := "law.go:32", after := #[{ on := 17, ground := Ground.guard }], guard := some (17, true) }) (v := .agg (byC d 32)) rfl (by as_aux_lemma => kernel_rfl) (by as_aux_lemma => kernel_rfl) (by as_aux_lemma => kernel_rfl) (fun _ _ _ h => h) (yieldsIf_load_A (by rfl) 24 (.tmp 5) rfl g5 0 rfl (byC d 32) _ (fun w hw => (HX.out.1.keep hw).rangeAt) und31 rfl (by rw [byC_size]; kernel_rfl)) (by assumption) ?_
  simp only [Act.put, List.setIfInBounds_toArray, List.set_cons_zero, List.set_cons_succ]
  refine wpAnyH_ready (rs := [24]) (by as_aux_lemma => kernel_rfl) (by simp) ?_
  refine AllReadyH.cons (o := { dst := some 46, op := Op.buildSlice 45 4 #[(0, Operand.const (Value.slice none 0 0)), (1, Operand.tmp 42), (2, Operand.const (Value.slice none 0 0)), (3, Operand.tmp 45)], type := 45, pos := "law.go:32", after := #[{ on := 20, ground := Ground.data }, { on := 23, ground := Ground.data }, { on := 17, ground := Ground.guard }], guard := some (17, true) }) rfl (fun K hK => ?_) (by exact AllReadyH.nil)
  rw [if_pos (by rfl)]
  go_simp
  refine hK.out _ _ (by (try dsimp only); (first | assumption | exact rstep (by assumption) (by assumption) | exact balloc (by assumption) _)) (fun hHeld => ?_)
  clear hK K
  simp only [List.setIfInBounds_toArray, List.set_cons_zero, List.set_cons_succ]
  refine wpAnyH_ready (rs := [25]) (by as_aux_lemma => kernel_rfl) (by simp) ?_
  refine AllReadyH.cons (o := { dst := some 47, op := Op.call { callee := Callee.value (Operand.func 7), args := #[Operand.tmp 46], argTypes := #[45] }, type := 24, pos := "law.go:32", after := #[{ on := 24, ground := Ground.data }, { on := 17, ground := Ground.chain }, { on := 17, ground := Ground.guard }], guard := some (17, true) }) rfl (fun K hK => ?_) (by exact AllReadyH.nil)
  rw [if_pos (by rfl)]
  go_simp
  (go_at_call 7; refine (S4.out wk13 (SL.out wk13 (by assumption))).mono ?_; rintro e wk25 ⟨rfl, hk25⟩)
  refine hK.out _ _ (by (try dsimp only); (first | assumption | exact rstep (by assumption) (by assumption) | exact balloc (by assumption) _)) (fun hHeld => ?_)
  clear hK K
  simp only [List.setIfInBounds_toArray, List.set_cons_zero, List.set_cons_succ]
  refine wpAnyH_take (i := 27) (oi := { dst := some 49, op := Op.binOp BinOp.eql 24 (Operand.tmp 47) (Operand.tmp 48) 24, type := 4, pos := "law.go:32", after := #[{ on := 25, ground := Ground.data }, { on := 26, ground := Ground.data }, { on := 17, ground := Ground.guard }], guard := some (17, true) }) (v := ?vq27) rfl (by as_aux_lemma => kernel_rfl) (by as_aux_lemma => kernel_rfl) (by as_aux_lemma => kernel_rfl) (fun _ _ _ h => h) (Or.inl ⟨by rfl, ?yq27⟩) (by assumption) ?rq27
  case yq27 => (intro w hSw; (try dsimp only at hSw); go_simp <;> with_reducible rfl)
  simp only [Act.put, List.setIfInBounds_toArray, List.set_cons_zero, List.set_cons_succ]
  refine wpAnyH_take (i := 28) (oi := { dst := some 50, op := Op.pick (Operand.tmp 39) (Operand.tmp 49) (Operand.const (Value.bool false)), type := 4, pos := "law.go:32", after := #[{ on := 17, ground := Ground.data }, { on := 27, ground := Ground.data }], guard := none }) (v := ?vq28) rfl (by as_aux_lemma => kernel_rfl) (by as_aux_lemma => kernel_rfl) (by as_aux_lemma => kernel_rfl) (fun _ _ _ h => h) (Or.inl ⟨by rfl, ?yq28⟩) (by assumption) ?rq28
  case yq28 => (intro w hSw; (try dsimp only at hSw); go_simp <;> with_reducible rfl)
  simp only [Act.put, List.setIfInBounds_toArray, List.set_cons_zero, List.set_cons_succ]
  refine wpAnyH_take (i := 29) (oi := { dst := some 51, op := Op.move (Operand.tmp 50), type := 4, pos := "law.go:32", after := #[{ on := 28, ground := Ground.data }, { on := 25, ground := Ground.chain }], guard := none }) (v := ?vq29) rfl (by as_aux_lemma => kernel_rfl) (by as_aux_lemma => kernel_rfl) (by as_aux_lemma => kernel_rfl) (fun _ _ _ h => h) (Or.inl ⟨by rfl, ?yq29⟩) (by assumption) ?rq29
  case yq29 => (intro w hSw; (try dsimp only at hSw); go_simp <;> with_reducible rfl)
  simp only [Act.put, List.setIfInBounds_toArray, List.set_cons_zero, List.set_cons_succ]
  refine wpAnyH_take (i := 30) (oi := { dst := some 52, op := Op.move (Operand.tmp 0), type := 22, pos := "law.go:32", after := #[{ on := 29, ground := Ground.guard }], guard := some (29, true) }) (v := ?vq30) rfl (by as_aux_lemma => kernel_rfl) (by as_aux_lemma => kernel_rfl) (by as_aux_lemma => kernel_rfl) (fun _ _ _ h => h) (Or.inl ⟨by rfl, ?yq30⟩) (by assumption) ?rq30
  case yq30 => (intro w hSw; (try dsimp only at hSw); go_simp <;> with_reducible rfl)
  simp only [Act.put, List.setIfInBounds_toArray, List.set_cons_zero, List.set_cons_succ]
  refine wpAnyH_take (i := 32) (oi := { dst := some 54, op := Op.move (Operand.tmp 0), type := 22, pos := "law.go:32", after := #[{ on := 29, ground := Ground.guard }], guard := some (29, true) }) (v := ?vq31) rfl (by as_aux_lemma => kernel_rfl) (by as_aux_lemma => kernel_rfl) (by as_aux_lemma => kernel_rfl) (fun _ _ _ h => h) (Or.inl ⟨by rfl, ?yq31⟩) (by assumption) ?rq31
  case yq31 => (intro w hSw; (try dsimp only at hSw); go_simp <;> with_reducible rfl)
  simp only [Act.put, List.setIfInBounds_toArray, List.set_cons_zero, List.set_cons_succ]
  refine wpAnyH_ready (rs := [31]) (by as_aux_lemma => kernel_rfl) (by simp) ?_
  refine AllReadyH.cons (o := { dst := some 53, op := Op.call { callee := Callee.value (Operand.func 8), args := #[Operand.tmp 52], argTypes := #[22] }, type := 29, pos := "law.go:32", after := #[{ on := 30, ground := Ground.data }, { on := 29, ground := Ground.chain }, { on := 29, ground := Ground.guard }], guard := some (29, true) }) rfl (fun K hK => ?_) (by exact AllReadyH.nil)
  rw [if_pos (by rfl)]
  go_simp
  (go_at_call 8; refine (WD.out wk25 (SL.out wk25 (by assumption))).mono ?_; rintro e wk31 ⟨rfl, hk31⟩)
  refine hK.out _ _ (by (try dsimp only); (first | assumption | exact rstep (by assumption) (by assumption) | exact balloc (by assumption) _)) (fun hHeld => ?_)
  clear hK K
  simp only [List.setIfInBounds_toArray, List.set_cons_zero, List.set_cons_succ]
  refine wpAnyH_ready (rs := [33]) (by as_aux_lemma => kernel_rfl) (by simp) ?_
  refine AllReadyH.cons (o := { dst := some 55, op := Op.call { callee := Callee.value (Operand.func 9), args := #[Operand.tmp 54], argTypes := #[22] }, type := 29, pos := "law.go:32", after := #[{ on := 32, ground := Ground.data }, { on := 31, ground := Ground.chain }, { on := 29, ground := Ground.guard }], guard := some (29, true) }) rfl (fun K hK => ?_) (by exact AllReadyH.nil)
  rw [if_pos (by rfl)]
  go_simp
  (go_at_call 9; refine (RW.out wk31 (SL.out wk31 (by assumption))).mono ?_; rintro e wk33 ⟨rfl, hk33⟩)
  refine hK.out _ _ (by (try dsimp only); (first | assumption | exact rstep (by assumption) (by assumption) | exact balloc (by assumption) _)) (fun hHeld => ?_)
  clear hK K
  simp only [List.setIfInBounds_toArray, List.set_cons_zero, List.set_cons_succ]
  refine wpAnyH_take (i := 34) (oi := { dst := some 56, op := Op.binOp BinOp.eql 29 (Operand.tmp 53) (Operand.tmp 55) 29, type := 4, pos := "law.go:32", after := #[{ on := 31, ground := Ground.data }, { on := 33, ground := Ground.data }, { on := 29, ground := Ground.guard }], guard := some (29, true) }) (v := ?vq34) rfl (by as_aux_lemma => kernel_rfl) (by as_aux_lemma => kernel_rfl) (by as_aux_lemma => kernel_rfl) (fun _ _ _ h => h) (Or.inl ⟨by rfl, ?yq34⟩) (by assumption) ?rq34
  case yq34 => (intro w hSw; (try dsimp only at hSw); go_simp <;> with_reducible rfl)
  simp only [Act.put, List.setIfInBounds_toArray, List.set_cons_zero, List.set_cons_succ]
  refine wpAnyH_take (i := 35) (oi := { dst := some 57, op := Op.pick (Operand.tmp 51) (Operand.tmp 56) (Operand.const (Value.bool false)), type := 4, pos := "law.go:32", after := #[{ on := 29, ground := Ground.data }, { on := 34, ground := Ground.data }], guard := none }) (v := ?vq35) rfl (by as_aux_lemma => kernel_rfl) (by as_aux_lemma => kernel_rfl) (by as_aux_lemma => kernel_rfl) (fun _ _ _ h => h) (Or.inl ⟨by rfl, ?yq35⟩) (by assumption) ?rq35
  case yq35 => (intro w hSw; (try dsimp only at hSw); go_simp <;> with_reducible rfl)
  simp only [Act.put, List.setIfInBounds_toArray, List.set_cons_zero, List.set_cons_succ]
  refine wpAnyH_take (i := 36) (oi := { dst := some 58, op := Op.move (Operand.tmp 57), type := 4, pos := "law.go:32", after := #[{ on := 35, ground := Ground.data }, { on := 33, ground := Ground.chain }], guard := none }) (v := ?vq36) rfl (by as_aux_lemma => kernel_rfl) (by as_aux_lemma => kernel_rfl) (by as_aux_lemma => kernel_rfl) (fun _ _ _ h => h) (Or.inl ⟨by rfl, ?yq36⟩) (by assumption) ?rq36
  case yq36 => (intro w hSw; (try dsimp only at hSw); go_simp <;> with_reducible rfl)
  simp only [Act.put, List.setIfInBounds_toArray, List.set_cons_zero, List.set_cons_succ]
  refine wpAnyH_ready (rs := [37]) (by as_aux_lemma => kernel_rfl) (by simp) ?_
  refine AllReadyH.cons (o := { dst := some 59, op := Op.call { callee := Callee.value (Operand.func 5), args := #[], argTypes := #[] }, type := 4, pos := "law.go:32", after := #[{ on := 36, ground := Ground.chain }, { on := 36, ground := Ground.guard }], guard := some (36, true) }) rfl (fun K hK => ?_) (by exact AllReadyH.nil)
  rw [if_pos (by rfl)]
  go_simp
  (go_at_call 5; refine (works_anyK _).mono ?_; rintro e wk37 ⟨rfl, hk37⟩)
  refine hK.out _ _ (by (try dsimp only); (first | assumption | exact rstep (by assumption) (by assumption) | exact balloc (by assumption) _)) (fun hHeld => ?_)
  clear hK K
  simp only [List.setIfInBounds_toArray, List.set_cons_zero, List.set_cons_succ]
  refine wpAnyH_take (i := 38) (oi := { dst := some 60, op := Op.pick (Operand.tmp 58) (Operand.tmp 59) (Operand.const (Value.bool false)), type := 4, pos := "law.go:32", after := #[{ on := 36, ground := Ground.data }, { on := 37, ground := Ground.data }], guard := none }) (v := ?vq38) rfl (by as_aux_lemma => kernel_rfl) (by as_aux_lemma => kernel_rfl) (by as_aux_lemma => kernel_rfl) (fun _ _ _ h => h) (Or.inl ⟨by rfl, ?yq38⟩) (by assumption) ?rq38
  case yq38 => (intro w hSw; (try dsimp only at hSw); go_simp <;> with_reducible rfl)
  simp only [Act.put, List.setIfInBounds_toArray, List.set_cons_zero, List.set_cons_succ]
  refine wpAnyH_take (i := 39) (oi := { dst := some 4, op := Op.assign (Operand.tmp 60), type := 4, pos := "law.go:32", after := #[{ on := 38, ground := Ground.data }, { on := 37, ground := Ground.chain }, { on := 0, ground := Ground.phase }, { on := 1, ground := Ground.phase }, { on := 2, ground := Ground.phase }, { on := 3, ground := Ground.phase }, { on := 4, ground := Ground.phase }, { on := 5, ground := Ground.phase }, { on := 6, ground := Ground.phase }, { on := 7, ground := Ground.phase }, { on := 8, ground := Ground.phase }, { on := 9, ground := Ground.phase }, { on := 10, ground := Ground.phase }, { on := 11, ground := Ground.phase }, { on := 12, ground := Ground.phase }, { on := 13, ground := Ground.phase }, { on := 14, ground := Ground.phase }, { on := 15, ground := Ground.phase }, { on := 16, ground := Ground.phase }, { on := 17, ground := Ground.phase }, { on := 18, ground := Ground.phase }, { on := 19, ground := Ground.phase }, { on := 20, ground := Ground.phase }, { on := 21, ground := Ground.phase }, { on := 22, ground := Ground.phase }, { on := 23, ground := Ground.phase }, { on := 24, ground := Ground.phase }, { on := 25, ground := Ground.phase }, { on := 26, ground := Ground.phase }, { on := 27, ground := Ground.phase }, { on := 28, ground := Ground.phase }, { on := 29, ground := Ground.phase }, { on := 30, ground := Ground.phase }, { on := 31, ground := Ground.phase }, { on := 32, ground := Ground.phase }, { on := 33, ground := Ground.phase }, { on := 34, ground := Ground.phase }, { on := 35, ground := Ground.phase }, { on := 36, ground := Ground.phase }, { on := 37, ground := Ground.phase }, { on := 38, ground := Ground.phase }], guard := none }) (v := ?vq39) rfl (by as_aux_lemma => kernel_rfl) (by as_aux_lemma => kernel_rfl) (by as_aux_lemma => kernel_rfl) (fun _ _ _ h => h) (Or.inl ⟨by rfl, ?yq39⟩) (by assumption) ?rq39
  case yq39 => (intro w hSw; (try dsimp only at hSw); go_simp <;> with_reducible rfl)
  simp only [Act.put, List.setIfInBounds_toArray, List.set_cons_zero, List.set_cons_succ]
  refine wpAnyH_done (by as_aux_lemma => kernel_rfl) ?_ _
  have HE := Lib.hid (bstep HX.out.2 hHeld)
  go_wp2_with fail
  go_ret
  exact ⟨rfl, HE.out⟩
end Go.Proofs.Ytfknfopdinkmkaa
