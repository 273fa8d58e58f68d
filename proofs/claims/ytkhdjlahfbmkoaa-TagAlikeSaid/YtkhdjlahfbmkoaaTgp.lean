/- tag: values compared; what the document's rows come to. -/
import Derived.Test.YtkhdjlahfbmkoaaTgo
import Derived.Laws.StructEq
import Derived.ChangeKeysEq
namespace Go.Proofs.Ytkhdjlahfbmkoaa
open Go.RowKit Go.Shelf

theorem und_lab : Try.prog.underlying 27 = some (.int .u64) := by kernel_rfl
theorem und_word : Try.prog.underlying 26 = some (.array 4 24) := by kernel_rfl
theorem vaFn0 : (vaF 0).type = 26 ∧ (vaF 0).offset = 0 ∧ (vaF 0).name = "Word" := ⟨by kernel_rfl, by kernel_rfl, by kernel_rfl⟩
theorem vaFn1 : (vaF 1).type = 27 ∧ (vaF 1).offset = 4 ∧ (vaF 1).name = "Label" := ⟨by kernel_rfl, by kernel_rfl, by kernel_rfl⟩
theorem part_word (n a : Nat) (w : World) : (part 26 (vA n a) 0).run Try.prog w = .ok (.agg #[.int .u64 (lb n 0), .int .u64 (lb n 1), .int .u64 (lb n 2), .int .u64 (lb n 3)]) w := by
  simp [part, isAgg, run_underlying und_word]
theorem equalIn_word (d n m : Nat) (w : World) : (Op.equalIn (d + 1 + 1) 26 (W n) (W m)).run Try.prog w = .ok ((List.range 4).all fun j => lb n j == lb m j) w := by
  obtain ⟨i, hi⟩ : ∃ i, Try.prog.info? 24 = some i := Option.isSome_iff_exists.1 (by kernel_rfl)
  rw [run_equalIn_array w (d + 1) (Wc n) (Wc m) und_word hi, run_eqItems_ints d (show Try.prog.underlying 24 = some (.int .u64) by kernel_rfl) (by kernel_rfl) (Wc n) (Wc m) (lb n) (lb m) w (List.range 4) (fun j hj => by
    have hj : j < 4 := by simpa using hj
    match j, hj with | 0, _ | 1, _ | 2, _ | 3, _ => exact ⟨rfl, rfl⟩)]
theorem eqVal_run (n a m b : Nat) (w : World) : (binOp .eql 29 (vV n a) (vV m b)).run Try.prog w = .ok (.bool (((List.range 4).all fun j => lb n j == lb m j) && (a == b))) w := by
  have hf : Try.prog.fieldsOf 29 = #[vaF 0, vaF 1] := by unfold Program.fieldsOf; rw [undva]
  have h1 := part_word n a
  have h2 := part_word m b
  have h3 : ∀ w, (part 27 (vA n a) 4).run Try.prog w = .ok (.int .u64 (a : Nat)) w := fun w => run_part_plain w (by kernel_rfl) rfl
  have h4 : ∀ w, (part 27 (vA m b) 4).run Try.prog w = .ok (.int .u64 (b : Nat)) w := fun w => run_part_plain w (by kernel_rfl) rfl
  have h5 := equalIn_word 9997 n m
  rw [run_eql_struct, show (10000 : Nat) = 9999 + 1 from rfl, run_equalIn_struct w 9999 _ _ _ (by rw [hf]; exact undva) (by kernel_rfl), hf]
  have hg : (Op.eqFields 9999 (vA n a) (vA m b) [vaF 0, vaF 1]).run Try.prog w = .ok (((List.range 4).all fun j => lb n j == lb m j) && (a == b)) w := by
    simp only [Op.eqFields, vaFn0.1, vaFn0.2.1, vaFn0.2.2, vaFn1.1, vaFn1.2.1, vaFn1.2.2]
    rw [if_pos (by decide), if_pos (by decide)]
    simp only [Sem.run_bind, h1, h2, h3, h4, Result.andThen_ok, Sem.run_ite, Sem.run_pure]
    rw [show (9999 : Nat) = 9997 + 1 + 1 from rfl, h5, show (9997 + 1 + 1 : Nat) = 9998 + 1 from rfl]
    simp only [Result.andThen_ok, run_equalIn_int _ 9998 _ _ _ _ _ und_lab, int_beq]
    cases ((List.range 4).all fun j => lb n j == lb m j) <;> cases (a == b) <;> simp
  rw [show (#[vaF 0, vaF 1] : Array Field).toList = [vaF 0, vaF 1] from rfl, hg]
  rfl
theorem eqVal_refl (n a : Nat) (w : World) : (binOp .eql 29 (vV n a) (vV n a)).run Try.prog w = .ok (.bool true) w := by
  rw [eqVal_run]; simp
theorem W_congr {x y : Nat} (h : x % MM = y % MM) : W x = W y := by
  unfold W; rw [lb_congr h 0 (by omega), lb_congr h 1 (by omega), lb_congr h 2 (by omega), lb_congr h 3 (by omega)]
theorem numB_by (a : Nat) : ∀ n, n ≤ 32 → numB (fun k => byA a (31 - k)) n = a / 256 ^ (32 - n) % 256 ^ n
  | 0, _ => by simp [numB, Nat.mod_one]
  | n + 1, h => by
    show numB (fun k => byA a (31 - k)) n * 256 + byA a (31 - n) = _
    rw [numB_by a n (by omega)]
    unfold byA
    have e : 32 - n = (31 - n) + 1 := by omega
    rw [show 32 - (n + 1) = 31 - n by omega, e, Nat.pow_succ, ← Nat.div_div_eq_div_mul]
    generalize a / 256 ^ (31 - n) = m
    rw [Nat.pow_succ', Nat.mod_mul]
    omega
theorem numB_eq (f g : Nat → Nat) : ∀ n, (∀ k, k < n → f k = g k) → numB f n = numB g n
  | 0, _ => rfl
  | n + 1, h => by
    show numB f n * 256 + f n = numB g n * 256 + g n
    rw [numB_eq f g n (fun k hk => h k (by omega)), h n (by omega)]

theorem nuL_byL (n : Nat) : nuL (byL n) = n / 256 ^ (32 - 32) % 256 ^ 32 := by
  rw [← numB_by n 32 (by omega)]
  unfold nuL
  rw [byL_len]
  exact numB_eq _ _ 32 fun k hk => by
    unfold byL
    rw [List.getD_eq_getElem?_getD, List.getElem?_map, List.getElem?_range hk]; rfl
theorem fiL_self {l : List (Nat × Nat)} (h : l.length = 32) : fiL l = l := by
  unfold fiL paL
  apply List.ext_getElem?
  intro i
  by_cases hi : i < 32
  · rw [List.getElem?_map, List.getElem?_range hi, cg_lt (by omega)]
    simp
  · rw [List.getElem?_eq_none (by simp; omega), List.getElem?_eq_none (by omega)]
theorem nuC_ceL (n a : Nat) : nuC (ceL n a) = n / 256 ^ (32 - 32) % 256 ^ 32 := by
  unfold nuC
  rw [fiL_self (ceL_len n a), ← nuL_byL]
  unfold ceL
  rw [List.map_map, show ((fun x : Nat × Nat => x.1) ∘ fun x => (x, a)) = id from rfl, List.map_id]
theorem jl_same (l : List Nat) (a s : Nat) (hs : s = 0 ∨ s = a) (hl : l ≠ [] ∨ s = a) : (l.map fun _ => a).foldl (· ||| ·) s = a := by
  induction l generalizing s with
  | nil => rcases hl with h | h; exact (h rfl).elim; exact h
  | cons x r ih =>
    show (r.map fun _ => a).foldl (· ||| ·) (s ||| a) = a
    exact ih (s ||| a) (.inr (by rcases hs with rfl | rfl; simp; simp)) (.inr (by rcases hs with rfl | rfl; simp; simp))
theorem jl_ceL (n a : Nat) : jl (fiL (ceL n a)) = a := by
  rw [fiL_self (ceL_len n a)]
  unfold jl joinL ceL
  rw [List.map_map, show ((fun x : Nat × Nat => x.2) ∘ fun x => (x, a)) = fun _ => a from rfl]
  exact jl_same _ a 0 (.inl rfl) (.inl (fun e => by have := byL_len n; rw [e] at this; cases this))
/-- The value of a value's cells is the value. -/
theorem vV_back (n a : Nat) : vV (nuC (ceL n a)) (jl (fiL (ceL n a))) = vV n a := by
  have h := W_congr (x := nuC (ceL n a)) (y := n) (by rw [nuC_ceL, Nat.sub_self, Nat.pow_zero, Nat.div_one, ← MM_256, Nat.mod_mod])
  rw [jl_ceL]
  unfold W at h
  injection h with h1
  injection h1 with h2
  injection h2 with a0 b0
  injection b0 with a1 b1
  injection b1 with a2 b2
  injection b2 with a3 b3
  unfold vV
  rw [a0, a1, a2, a3]
theorem num_any9 (n : Int) (w : World) : Calls Try.prog 22 #[.int .i64 n] w fun e w' => e = .returned (.int .i64 n) ∧ w = w' := by
  go_enter Try.func22, Try.ntmps22
  go_wp2_with fail
  go_ret
  exact ⟨rfl, rfl⟩
/-- The rows' list. -/
abbrev wkL : List (Nat × Nat) := [(1, 1), (2, 4)]
theorem wk_cs (w : World) : Cs (w.heap.size + 1) (w.alloc (.cells #[.int .u8 1, .int .u64 1, .int .u8 2, .int .u64 4] 53)) (.slice (some ⟨w.heap.size, 0, none⟩) 2 2) wkL := by
  have h := Cs.of_blk (l := wkL) (Blk.new w 53 (cvs wkL).toArray) (by intro a ha; simp at ha; rcases ha with rfl | rfl <;> exact ⟨by decide, by decide⟩) (by decide)
  rw [World.size_alloc] at h
  exact h
theorem wk_cs3 (w : World) : Cs (w.heap.size + 1) (w.alloc (.cells #[.int .u8 2, .int .u64 4, .int .u8 0, .int .u64 0, .int .u8 0, .int .u64 0] 53)) (.slice (some ⟨w.heap.size, 0, none⟩) 3 3) [(2, 4), (0, 0), (0, 0)] := by
  have h := Cs.of_blk (l := [(2, 4), (0, 0), (0, 0)]) (Blk.new w 53 (cvs [(2, 4), (0, 0), (0, 0)]).toArray) (by intro a ha; simp at ha; rcases ha with rfl | rfl <;> exact ⟨by decide, by decide⟩) (by decide)
  rw [World.size_alloc] at h
  exact h
theorem wk_pa : paL wkL 1 3 = [(2, 4), (0, 0), (0, 0)] := by decide
set_option maxRecDepth 100000 in
set_option maxHeartbeats 4000000 in
theorem tworks_any (w : World) : Calls Try.prog 7 #[] w fun e w' => e = .returned (.bool true) ∧ Below w.heap.size w w' := by
  have hcs := wk_cs w
  have hal := balloc (Below.refl w.heap.size w) (.cells #[.int .u8 1, .int .u64 1, .int .u8 2, .int .u64 4] 53)
  obtain ⟨X, hX⟩ : ∃ X, w.alloc (.cells #[.int .u8 1, .int .u64 1, .int .u8 2, .int .u64 4] 53) = X := ⟨_, rfl⟩
  have hsz : X.heap.size = w.heap.size + 1 := by rw [← hX]; simp
  rw [hX] at hcs hal
  have HP := Lib.hid (show Calls Try.prog 21 #[.slice (some ⟨w.heap.size, 0, none⟩) 2 2, .int .i64 1, .int .i64 3] X fun e w' => ∃ g, e = .returned (.tuple #[.slice (some ⟨g, 0, none⟩) 3 3, .int .i64 0]) ∧ X.heap.size ≤ g ∧ Blk w' g 53 (cvs (paL wkL 1 3)).toArray ∧ Below X.heap.size X w' from part_any (w.heap.size + 1) _ wkL 1 3 (by omega) X (by omega) hcs)
  have HX := Lib.hid (And.intro hX (And.intro hcs (And.intro hal hsz)))
  have ho5 : ∀ Y, Calls Try.prog 30 #[.int .u64 5] Y fun e w' => e = .returned (W 5) ∧ Below Y.heap.size Y w' := fun Y => rof_any 5 (by decide) Y
  have ho6 : ∀ Y, Calls Try.prog 30 #[.int .u64 6] Y fun e w' => e = .returned (W 6) ∧ Below Y.heap.size Y w' := fun Y => rof_any 6 (by decide) Y
  have HO5 := Lib.hid ho5
  have HO6 := Lib.hid ho6
  clear hX hcs hal hsz ho5 ho6
  go_enter Try.func7, Try.ntmps7
  go_upto_region 4 with (first
    | (rw [HX.out.1]; go_at_call 21; refine (HP.out).mono ?_; rintro e w1 ⟨g, rfl, hg, hb, hw⟩; have H1 := Lib.hid (And.intro hg (And.intro hb hw)); clear hg hb hw)
    | (go_at_call 30; (with_reducible refine (HO5.out _).mono ?_); rintro e wza ⟨rfl, hzA⟩)
    | (go_at_call 30; (with_reducible refine (HO6.out _).mono ?_); rintro e wz ⟨rfl, hz⟩)
    | fail)
  obtain ⟨V, hV⟩ : ∃ V, (wz.alloc (.cells (Wc 5) 26)).alloc (.cells (Wc 6) 26) = V := ⟨_, rfl⟩
  have hbz : Below wz.heap.size wz V := by rw [← hV]; exact balloc (balloc (Below.refl _ _) _) _
  have hv5 : Blk V wz.heap.size 26 (Wc 5) := by rw [← hV]; exact (Blk.new wz _ _).alloc _
  have hv6 : Blk V (wz.heap.size + 1) 26 (Wc 6) := by rw [← hV]; exact Blk.newS wz _ _ _
  have hb1V : Below w1.heap.size w1 V := bstep (bstep hzA hz) hbz
  have hpV : Blk V g 53 (cvs (paL wkL 1 3)).toArray := H1.out.2.1.keep hb1V
  have hlV : Cs (w.heap.size + 1) V (.slice (some ⟨w.heap.size, 0, none⟩) 2 2) wkL := (HX.out.2.1.new H1.out.2.2).new hb1V
  have hwV : Below w.heap.size w V := bstep (bstep HX.out.2.2.1 H1.out.2.2) hb1V
  rw [hV]
  clear hV hz hzA hbz hb1V
  have l0 : ∀ Z, Below V.heap.size V Z → Z.cell? ⟨wz.heap.size, 0, none⟩ = some (.int .u64 (lb 5 0)) := fun Z h => cell_of_row _ _ 0 _ _ _ (hv5.keep h)
  have m0 : ∀ Z, Below V.heap.size V Z → Z.cell? ⟨wz.heap.size + 1, 0, none⟩ = some (.int .u64 (lb 6 0)) := fun Z h => cell_of_row _ _ 0 _ _ _ (hv6.keep h)
  have l1 : ∀ Z, Below V.heap.size V Z → Z.cell? ⟨wz.heap.size, 1, none⟩ = some (.int .u64 (lb 5 1)) := fun Z h => cell_of_row _ _ 1 _ _ _ (hv5.keep h)
  have m1 : ∀ Z, Below V.heap.size V Z → Z.cell? ⟨wz.heap.size + 1, 1, none⟩ = some (.int .u64 (lb 6 1)) := fun Z h => cell_of_row _ _ 1 _ _ _ (hv6.keep h)
  have l2 : ∀ Z, Below V.heap.size V Z → Z.cell? ⟨wz.heap.size, 2, none⟩ = some (.int .u64 (lb 5 2)) := fun Z h => cell_of_row _ _ 2 _ _ _ (hv5.keep h)
  have m2 : ∀ Z, Below V.heap.size V Z → Z.cell? ⟨wz.heap.size + 1, 2, none⟩ = some (.int .u64 (lb 6 2)) := fun Z h => cell_of_row _ _ 2 _ _ _ (hv6.keep h)
  have l3 : ∀ Z, Below V.heap.size V Z → Z.cell? ⟨wz.heap.size, 3, none⟩ = some (.int .u64 (lb 5 3)) := fun Z h => cell_of_row _ _ 3 _ _ _ (hv5.keep h)
  have m3 : ∀ Z, Below V.heap.size V Z → Z.cell? ⟨wz.heap.size + 1, 3, none⟩ = some (.int .u64 (lb 6 3)) := fun Z h => cell_of_row _ _ 3 _ _ _ (hv6.keep h)
  have HWD := Lib.hid (fun (Z : World) (g1 : Nat) (h : Blk Z g1 53 (cvs (ceL 5 1)).toArray) => by
    have h1 := Cs.of_blk h (ceL_ok 5 1 (by decide)) (by rw [ceL_len]; omega)
    rw [ceL_len] at h1
    have h2 := tword_any Z.heap.size _ (ceL 5 1) Z (Nat.le_refl _) h1
    rw [vV_back] at h2
    have h3 : Calls Try.prog 19 #[.slice (some ⟨g1, 0, none⟩) 32 32] Z fun e w' => e = .returned (.agg #[.int .u64 (lb 5 0), .int .u64 (lb 5 1), .int .u64 (lb 5 2), .int .u64 (lb 5 3), .int .u64 1]) ∧ Below Z.heap.size Z w' := h2
    exact h3)
  have HLB := Lib.hid (fun (Z : World) (h : Below V.heap.size V Z) => by
    have h2 := tlabel_any (w.heap.size + 1) _ wkL (by decide) Z (hlV.new h)
    rw [show jl wkL = 5 by decide] at h2
    exact h2)
  have HEQ := Lib.hid (fun (Z : World) (h : Below V.heap.size V Z) => by
    have h1 := Cs.of_blk (hpV.keep h) (by rw [wk_pa]; intro a ha; simp at ha; rcases ha with rfl | rfl <;> exact ⟨by decide, by decide⟩) (by rw [paL_len]; omega)
    rw [paL_len, wk_pa] at h1
    have h2 := equal_any9 _ _ _ _ _ _ _ (h1.new (balloc (Below.refl Z.heap.size Z) (.cells #[.int .u8 2, .int .u64 4, .int .u8 0, .int .u64 0, .int .u8 0, .int .u64 0] 53))) (wk_cs3 Z)
    rw [alB_refl] at h2
    exact h2)
  have HS1 := Lib.hid (fun (Z : World) => by
    have h2 := same_any9 5 2 6 2 1 (by decide) (by decide) (by decide) (by decide) Z
    rw [show smB 5 2 6 2 1 = true by decide] at h2
    exact h2)
  have HS2 := Lib.hid (fun (Z : World) => by
    have h2 := same_any9 5 1 6 1 1 (by decide) (by decide) (by decide) (by decide) Z
    rw [show smB 5 1 6 1 1 = false by decide] at h2
    exact h2)
  have HS3 := Lib.hid (fun (Z : World) => by
    have h2 := same_any9 5 1 5 2 3 (by decide) (by decide) (by decide) (by decide) Z
    rw [show smB 5 1 5 2 3 = false by decide] at h2
    exact h2)
  have heq : ∀ w, (binOp .eql 29 (.agg #[.int .u64 (lb 5 0), .int .u64 (lb 5 1), .int .u64 (lb 5 2), .int .u64 (lb 5 3), .int .u64 1]) (.agg #[.int .u64 (lb 5 0), .int .u64 (lb 5 1), .int .u64 (lb 5 2), .int .u64 (lb 5 3), .int .u64 1])).run Try.prog w = .ok (.bool true) w := eqVal_refl 5 1
  have HV := Lib.hid hwV
  have hB0 : Below V.heap.size V V.drew := (Below.refl _ _).drew
  clear hv5 hv6 hpV hlV hwV H1 HX HP
  refine wp_region_held_drew (S := fun Z => Below V.heap.size V Z) (by as_aux_lemma => kernel_rfl) hB0 (fun hHeld => ?_)
  simp only [List.size_toArray, List.length_cons, List.length_nil, Nat.reduceAdd, Array.replicate_succ, Array.replicate_zero, List.push_toArray, List.nil_append, List.cons_append]
  refine wpAnyH_take (i := 0) (oi := { dst := some 16, op := Op.load 26 (Operand.tmp 4), type := 26, pos := "law.go:20", after := #[], guard := none }) (v := ?vq0) rfl (by as_aux_lemma => kernel_rfl) (by as_aux_lemma => kernel_rfl) (by as_aux_lemma => kernel_rfl) (fun _ _ _ h => h) (Or.inl ⟨by rfl, ?yq0⟩) (by assumption) ?rq0
  case yq0 => (intro w hSw; (try dsimp only at hSw); have q0 := l0 w hSw; have r0 := m0 w hSw; have q1 := l1 w hSw; have r1 := m1 w hSw; have q2 := l2 w hSw; have r2 := m2 w hSw; have q3 := l3 w hSw; have r3 := m3 w hSw; go_simp <;> with_reducible rfl)
  simp only [Act.put, List.setIfInBounds_toArray, List.set_cons_zero, List.set_cons_succ]
  refine wpAnyH_take (i := 1) (oi := { dst := some 17, op := Op.build 29 #[(0, Operand.tmp 16), (1, Operand.const (Value.int IntKind.u64 1))], type := 29, pos := "law.go:20", after := #[{ on := 0, ground := Ground.data }], guard := none }) (v := ?vq1) rfl (by as_aux_lemma => kernel_rfl) (by as_aux_lemma => kernel_rfl) (by as_aux_lemma => kernel_rfl) (fun _ _ _ h => h) (Or.inl ⟨by rfl, ?yq1⟩) (by assumption) ?rq1
  case yq1 => (intro w hSw; (try dsimp only at hSw); have q0 := l0 w hSw; have r0 := m0 w hSw; have q1 := l1 w hSw; have r1 := m1 w hSw; have q2 := l2 w hSw; have r2 := m2 w hSw; have q3 := l3 w hSw; have r3 := m3 w hSw; go_simp <;> with_reducible rfl)
  simp only [Act.put, List.setIfInBounds_toArray, List.set_cons_zero, List.set_cons_succ]
  refine wpAnyH_take (i := 4) (oi := { dst := some 20, op := Op.load 26 (Operand.tmp 4), type := 26, pos := "law.go:20", after := #[], guard := none }) (v := ?vq2) rfl (by as_aux_lemma => kernel_rfl) (by as_aux_lemma => kernel_rfl) (by as_aux_lemma => kernel_rfl) (fun _ _ _ h => h) (Or.inl ⟨by rfl, ?yq2⟩) (by assumption) ?rq2
  case yq2 => (intro w hSw; (try dsimp only at hSw); have q0 := l0 w hSw; have r0 := m0 w hSw; have q1 := l1 w hSw; have r1 := m1 w hSw; have q2 := l2 w hSw; have r2 := m2 w hSw; have q3 := l3 w hSw; have r3 := m3 w hSw; go_simp <;> with_reducible rfl)
  simp only [Act.put, List.setIfInBounds_toArray, List.set_cons_zero, List.set_cons_succ]
  refine wpAnyH_take (i := 5) (oi := { dst := some 21, op := Op.build 29 #[(0, Operand.tmp 20), (1, Operand.const (Value.int IntKind.u64 1))], type := 29, pos := "law.go:20", after := #[{ on := 4, ground := Ground.data }], guard := none }) (v := ?vq3) rfl (by as_aux_lemma => kernel_rfl) (by as_aux_lemma => kernel_rfl) (by as_aux_lemma => kernel_rfl) (fun _ _ _ h => h) (Or.inl ⟨by rfl, ?yq3⟩) (by assumption) ?rq3
  case yq3 => (intro w hSw; (try dsimp only at hSw); have q0 := l0 w hSw; have r0 := m0 w hSw; have q1 := l1 w hSw; have r1 := m1 w hSw; have q2 := l2 w hSw; have r2 := m2 w hSw; have q3 := l3 w hSw; have r3 := m3 w hSw; go_simp <;> with_reducible rfl)
  simp only [Act.put, List.setIfInBounds_toArray, List.set_cons_zero, List.set_cons_succ]
  refine wpAnyH_ready (rs := [2]) (by as_aux_lemma => kernel_rfl) (by simp) ?_
  refine AllReadyH.cons (o := { dst := some 18, op := Op.call { callee := Callee.value (Operand.func 17), args := #[Operand.tmp 17], argTypes := #[29] }, type := 22, pos := "law.go:20", after := #[{ on := 1, ground := Ground.data }], guard := none }) rfl (fun K hK => ?_) (by exact AllReadyH.nil)
  rw [if_pos (by rfl)]
  go_simp
  refine (tcells_any 5 1 (by decide) _).mono ?_
  rintro e u1 ⟨g1, rfl, hg1, hb1, hu1⟩
  have hS1 : Below V.heap.size V u1 := rstep hu1 hB0
  refine hK.out _ _ (by (try dsimp only); (first | exact hS9 | exact hS8 | exact hS7 | exact hS5 | exact balloc hS3 _ | exact hS3 | exact hS2 | exact hS1)) (fun hHeld => ?_)
  clear hK K
  simp only [List.setIfInBounds_toArray, List.set_cons_zero, List.set_cons_succ]
  refine wpAnyH_ready (rs := [3]) (by as_aux_lemma => kernel_rfl) (by simp) ?_
  refine AllReadyH.cons (o := { dst := some 19, op := Op.call { callee := Callee.value (Operand.func 19), args := #[Operand.tmp 18], argTypes := #[22] }, type := 29, pos := "law.go:20", after := #[{ on := 2, ground := Ground.data }, { on := 2, ground := Ground.chain }], guard := none }) rfl (fun K hK => ?_) (by exact AllReadyH.nil)
  rw [if_pos (by rfl)]
  go_simp
  refine (HWD.out _ _ hb1).mono ?_
  rintro e u2 ⟨rfl, hu2⟩
  have hS2 := rstep hu2 hS1
  refine hK.out _ _ (by (try dsimp only); (first | exact hS9 | exact hS8 | exact hS7 | exact hS5 | exact balloc hS3 _ | exact hS3 | exact hS2 | exact hS1)) (fun hHeld => ?_)
  clear hK K
  simp only [List.setIfInBounds_toArray, List.set_cons_zero, List.set_cons_succ]
  refine wpAnyH_take (i := 6) (oi := { dst := some 22, op := Op.binOp BinOp.eql 29 (Operand.tmp 19) (Operand.tmp 21) 29, type := 4, pos := "law.go:20", after := #[{ on := 3, ground := Ground.data }, { on := 5, ground := Ground.data }], guard := none }) (v := ?vq6) rfl (by as_aux_lemma => kernel_rfl) (by as_aux_lemma => kernel_rfl) (by as_aux_lemma => kernel_rfl) (fun _ _ _ h => h) (Or.inl ⟨by rfl, ?yq6⟩) (by assumption) ?rq6
  case yq6 => (intro w hSw; (try dsimp only at hSw); have q0 := l0 w hSw; have r0 := m0 w hSw; have q1 := l1 w hSw; have r1 := m1 w hSw; have q2 := l2 w hSw; have r2 := m2 w hSw; have q3 := l3 w hSw; have r3 := m3 w hSw; go_simp <;> with_reducible rfl)
  simp only [Act.put, List.setIfInBounds_toArray, List.set_cons_zero, List.set_cons_succ]
  refine wpAnyH_take (i := 7) (oi := { dst := some 23, op := Op.move (Operand.tmp 22), type := 4, pos := "law.go:20", after := #[{ on := 6, ground := Ground.data }, { on := 3, ground := Ground.chain }], guard := none }) (v := ?vq7) rfl (by as_aux_lemma => kernel_rfl) (by as_aux_lemma => kernel_rfl) (by as_aux_lemma => kernel_rfl) (fun _ _ _ h => h) (Or.inl ⟨by rfl, ?yq7⟩) (by assumption) ?rq7
  case yq7 => (intro w hSw; (try dsimp only at hSw); have q0 := l0 w hSw; have r0 := m0 w hSw; have q1 := l1 w hSw; have r1 := m1 w hSw; have q2 := l2 w hSw; have r2 := m2 w hSw; have q3 := l3 w hSw; have r3 := m3 w hSw; go_simp <;> with_reducible rfl)
  simp only [Act.put, List.setIfInBounds_toArray, List.set_cons_zero, List.set_cons_succ]
  refine wpAnyH_take (i := 8) (oi := { dst := some 24, op := Op.move (Operand.tmp 1), type := 22, pos := "law.go:20", after := #[{ on := 7, ground := Ground.guard }], guard := some (7, true) }) (v := ?vq8) rfl (by as_aux_lemma => kernel_rfl) (by as_aux_lemma => kernel_rfl) (by as_aux_lemma => kernel_rfl) (fun _ _ _ h => h) (Or.inl ⟨by rfl, ?yq8⟩) (by assumption) ?rq8
  case yq8 => (intro w hSw; (try dsimp only at hSw); have q0 := l0 w hSw; have r0 := m0 w hSw; have q1 := l1 w hSw; have r1 := m1 w hSw; have q2 := l2 w hSw; have r2 := m2 w hSw; have q3 := l3 w hSw; have r3 := m3 w hSw; go_simp <;> with_reducible rfl)
  simp only [Act.put, List.setIfInBounds_toArray, List.set_cons_zero, List.set_cons_succ]
  refine wpAnyH_ready (rs := [9]) (by as_aux_lemma => kernel_rfl) (by simp) ?_
  refine AllReadyH.cons (o := { dst := some 25, op := Op.call { callee := Callee.value (Operand.func 13), args := #[Operand.tmp 24], argTypes := #[22] }, type := 27, pos := "law.go:20", after := #[{ on := 8, ground := Ground.data }, { on := 7, ground := Ground.chain }, { on := 7, ground := Ground.guard }], guard := some (7, true) }) rfl (fun K hK => ?_) (by exact AllReadyH.nil)
  rw [if_pos (by rfl)]
  go_simp
  refine (HLB.out _ hS2).mono ?_
  rintro e u3 ⟨rfl, hu3⟩
  have hS3 := rstep hu3 hS2
  refine hK.out _ _ (by (try dsimp only); (first | exact hS9 | exact hS8 | exact hS7 | exact hS5 | exact balloc hS3 _ | exact hS3 | exact hS2 | exact hS1)) (fun hHeld => ?_)
  clear hK K
  simp only [List.setIfInBounds_toArray, List.set_cons_zero, List.set_cons_succ]
  refine wpAnyH_take (i := 10) (oi := { dst := some 26, op := Op.binOp BinOp.eql 27 (Operand.tmp 25) (Operand.const (Value.int IntKind.u64 5)) 27, type := 4, pos := "law.go:20", after := #[{ on := 9, ground := Ground.data }, { on := 7, ground := Ground.guard }], guard := some (7, true) }) (v := ?vq10) rfl (by as_aux_lemma => kernel_rfl) (by as_aux_lemma => kernel_rfl) (by as_aux_lemma => kernel_rfl) (fun _ _ _ h => h) (Or.inl ⟨by rfl, ?yq10⟩) (by assumption) ?rq10
  case yq10 => (intro w hSw; (try dsimp only at hSw); have q0 := l0 w hSw; have r0 := m0 w hSw; have q1 := l1 w hSw; have r1 := m1 w hSw; have q2 := l2 w hSw; have r2 := m2 w hSw; have q3 := l3 w hSw; have r3 := m3 w hSw; go_simp <;> with_reducible rfl)
  simp only [Act.put, List.setIfInBounds_toArray, List.set_cons_zero, List.set_cons_succ]
  refine wpAnyH_take (i := 11) (oi := { dst := some 27, op := Op.pick (Operand.tmp 23) (Operand.tmp 26) (Operand.const (Value.bool false)), type := 4, pos := "law.go:20", after := #[{ on := 7, ground := Ground.data }, { on := 10, ground := Ground.data }], guard := none }) (v := ?vq11) rfl (by as_aux_lemma => kernel_rfl) (by as_aux_lemma => kernel_rfl) (by as_aux_lemma => kernel_rfl) (fun _ _ _ h => h) (Or.inl ⟨by rfl, ?yq11⟩) (by assumption) ?rq11
  case yq11 => (intro w hSw; (try dsimp only at hSw); have q0 := l0 w hSw; have r0 := m0 w hSw; have q1 := l1 w hSw; have r1 := m1 w hSw; have q2 := l2 w hSw; have r2 := m2 w hSw; have q3 := l3 w hSw; have r3 := m3 w hSw; go_simp <;> with_reducible rfl)
  simp only [Act.put, List.setIfInBounds_toArray, List.set_cons_zero, List.set_cons_succ]
  refine wpAnyH_take (i := 12) (oi := { dst := some 28, op := Op.move (Operand.tmp 27), type := 4, pos := "law.go:20", after := #[{ on := 11, ground := Ground.data }, { on := 9, ground := Ground.chain }], guard := none }) (v := ?vq12) rfl (by as_aux_lemma => kernel_rfl) (by as_aux_lemma => kernel_rfl) (by as_aux_lemma => kernel_rfl) (fun _ _ _ h => h) (Or.inl ⟨by rfl, ?yq12⟩) (by assumption) ?rq12
  case yq12 => (intro w hSw; (try dsimp only at hSw); have q0 := l0 w hSw; have r0 := m0 w hSw; have q1 := l1 w hSw; have r1 := m1 w hSw; have q2 := l2 w hSw; have r2 := m2 w hSw; have q3 := l3 w hSw; have r3 := m3 w hSw; go_simp <;> with_reducible rfl)
  simp only [Act.put, List.setIfInBounds_toArray, List.set_cons_zero, List.set_cons_succ]
  refine wpAnyH_take (i := 13) (oi := { dst := some 29, op := Op.move (Operand.tmp 2), type := 22, pos := "law.go:20", after := #[{ on := 12, ground := Ground.guard }], guard := some (12, true) }) (v := ?vq13) rfl (by as_aux_lemma => kernel_rfl) (by as_aux_lemma => kernel_rfl) (by as_aux_lemma => kernel_rfl) (fun _ _ _ h => h) (Or.inl ⟨by rfl, ?yq13⟩) (by assumption) ?rq13
  case yq13 => (intro w hSw; (try dsimp only at hSw); have q0 := l0 w hSw; have r0 := m0 w hSw; have q1 := l1 w hSw; have r1 := m1 w hSw; have q2 := l2 w hSw; have r2 := m2 w hSw; have q3 := l3 w hSw; have r3 := m3 w hSw; go_simp <;> with_reducible rfl)
  simp only [Act.put, List.setIfInBounds_toArray, List.set_cons_zero, List.set_cons_succ]
  refine wpAnyH_take (i := 14) (oi := { dst := some 30, op := Op.build 53 #[(0, Operand.const (Value.int IntKind.u8 2)), (1, Operand.const (Value.int IntKind.u64 4))], type := 53, pos := "law.go:20", after := #[{ on := 12, ground := Ground.guard }], guard := some (12, true) }) (v := ?vq14) rfl (by as_aux_lemma => kernel_rfl) (by as_aux_lemma => kernel_rfl) (by as_aux_lemma => kernel_rfl) (fun _ _ _ h => h) (Or.inl ⟨by rfl, ?yq14⟩) (by assumption) ?rq14
  case yq14 => (intro w hSw; (try dsimp only at hSw); have q0 := l0 w hSw; have r0 := m0 w hSw; have q1 := l1 w hSw; have r1 := m1 w hSw; have q2 := l2 w hSw; have r2 := m2 w hSw; have q3 := l3 w hSw; have r3 := m3 w hSw; go_simp <;> with_reducible rfl)
  simp only [Act.put, List.setIfInBounds_toArray, List.set_cons_zero, List.set_cons_succ]
  refine wpAnyH_take (i := 15) (oi := { dst := some 31, op := Op.build 53 #[], type := 53, pos := "law.go:20", after := #[{ on := 12, ground := Ground.guard }], guard := some (12, true) }) (v := ?vq15) rfl (by as_aux_lemma => kernel_rfl) (by as_aux_lemma => kernel_rfl) (by as_aux_lemma => kernel_rfl) (fun _ _ _ h => h) (Or.inl ⟨by rfl, ?yq15⟩) (by assumption) ?rq15
  case yq15 => (intro w hSw; (try dsimp only at hSw); have q0 := l0 w hSw; have r0 := m0 w hSw; have q1 := l1 w hSw; have r1 := m1 w hSw; have q2 := l2 w hSw; have r2 := m2 w hSw; have q3 := l3 w hSw; have r3 := m3 w hSw; go_simp <;> with_reducible rfl)
  simp only [Act.put, List.setIfInBounds_toArray, List.set_cons_zero, List.set_cons_succ]
  refine wpAnyH_take (i := 16) (oi := { dst := some 32, op := Op.build 53 #[], type := 53, pos := "law.go:20", after := #[{ on := 12, ground := Ground.guard }], guard := some (12, true) }) (v := ?vq16) rfl (by as_aux_lemma => kernel_rfl) (by as_aux_lemma => kernel_rfl) (by as_aux_lemma => kernel_rfl) (fun _ _ _ h => h) (Or.inl ⟨by rfl, ?yq16⟩) (by assumption) ?rq16
  case yq16 => (intro w hSw; (try dsimp only at hSw); have q0 := l0 w hSw; have r0 := m0 w hSw; have q1 := l1 w hSw; have r1 := m1 w hSw; have q2 := l2 w hSw; have r2 := m2 w hSw; have q3 := l3 w hSw; have r3 := m3 w hSw; go_simp <;> with_reducible rfl)
  simp only [Act.put, List.setIfInBounds_toArray, List.set_cons_zero, List.set_cons_succ]
  refine wpAnyH_ready (rs := [17]) (by as_aux_lemma => kernel_rfl) (by simp) ?_
  refine AllReadyH.cons (o := { dst := some 33, op := Op.buildSlice 22 3 #[(0, Operand.tmp 30), (1, Operand.tmp 31), (2, Operand.tmp 32)], type := 22, pos := "law.go:20", after := #[{ on := 14, ground := Ground.data }, { on := 15, ground := Ground.data }, { on := 16, ground := Ground.data }, { on := 12, ground := Ground.guard }], guard := some (12, true) }) rfl (fun K hK => ?_) (by exact AllReadyH.nil)
  rw [if_pos (by rfl)]
  go_simp
  refine hK.out _ _ (by (try dsimp only); (first | exact hS9 | exact hS8 | exact hS7 | exact hS5 | exact balloc hS3 _ | exact hS3 | exact hS2 | exact hS1)) (fun hHeld => ?_)
  clear hK K
  simp only [List.setIfInBounds_toArray, List.set_cons_zero, List.set_cons_succ]
  refine wpAnyH_ready (rs := [18]) (by as_aux_lemma => kernel_rfl) (by simp) ?_
  refine AllReadyH.cons (o := { dst := some 34, op := Op.call { callee := Callee.value (Operand.func 8), args := #[Operand.tmp 29, Operand.tmp 33], argTypes := #[22, 22] }, type := 4, pos := "law.go:20", after := #[{ on := 13, ground := Ground.data }, { on := 17, ground := Ground.data }, { on := 12, ground := Ground.chain }, { on := 12, ground := Ground.guard }], guard := some (12, true) }) rfl (fun K hK => ?_) (by exact AllReadyH.nil)
  rw [if_pos (by rfl)]
  go_simp
  refine (HEQ.out _ hS3).mono ?_
  rintro e u5 ⟨rfl, hu5⟩
  have hS5 := rstep hu5 (balloc hS3 _)
  refine hK.out _ _ (by (try dsimp only); (first | exact hS9 | exact hS8 | exact hS7 | exact hS5 | exact balloc hS3 _ | exact hS3 | exact hS2 | exact hS1)) (fun hHeld => ?_)
  clear hK K
  simp only [List.setIfInBounds_toArray, List.set_cons_zero, List.set_cons_succ]
  refine wpAnyH_take (i := 19) (oi := { dst := some 35, op := Op.pick (Operand.tmp 28) (Operand.tmp 34) (Operand.const (Value.bool false)), type := 4, pos := "law.go:20", after := #[{ on := 12, ground := Ground.data }, { on := 18, ground := Ground.data }], guard := none }) (v := ?vq19) rfl (by as_aux_lemma => kernel_rfl) (by as_aux_lemma => kernel_rfl) (by as_aux_lemma => kernel_rfl) (fun _ _ _ h => h) (Or.inl ⟨by rfl, ?yq19⟩) (by assumption) ?rq19
  case yq19 => (intro w hSw; (try dsimp only at hSw); have q0 := l0 w hSw; have r0 := m0 w hSw; have q1 := l1 w hSw; have r1 := m1 w hSw; have q2 := l2 w hSw; have r2 := m2 w hSw; have q3 := l3 w hSw; have r3 := m3 w hSw; go_simp <;> with_reducible rfl)
  simp only [Act.put, List.setIfInBounds_toArray, List.set_cons_zero, List.set_cons_succ]
  refine wpAnyH_take (i := 20) (oi := { dst := some 36, op := Op.move (Operand.tmp 35), type := 4, pos := "law.go:20", after := #[{ on := 19, ground := Ground.data }, { on := 18, ground := Ground.chain }], guard := none }) (v := ?vq20) rfl (by as_aux_lemma => kernel_rfl) (by as_aux_lemma => kernel_rfl) (by as_aux_lemma => kernel_rfl) (fun _ _ _ h => h) (Or.inl ⟨by rfl, ?yq20⟩) (by assumption) ?rq20
  case yq20 => (intro w hSw; (try dsimp only at hSw); have q0 := l0 w hSw; have r0 := m0 w hSw; have q1 := l1 w hSw; have r1 := m1 w hSw; have q2 := l2 w hSw; have r2 := m2 w hSw; have q3 := l3 w hSw; have r3 := m3 w hSw; go_simp <;> with_reducible rfl)
  simp only [Act.put, List.setIfInBounds_toArray, List.set_cons_zero, List.set_cons_succ]
  refine wpAnyH_take (i := 21) (oi := { dst := some 37, op := Op.move (Operand.tmp 3), type := 39, pos := "law.go:20", after := #[{ on := 20, ground := Ground.guard }], guard := some (20, true) }) (v := ?vq21) rfl (by as_aux_lemma => kernel_rfl) (by as_aux_lemma => kernel_rfl) (by as_aux_lemma => kernel_rfl) (fun _ _ _ h => h) (Or.inl ⟨by rfl, ?yq21⟩) (by assumption) ?rq21
  case yq21 => (intro w hSw; (try dsimp only at hSw); have q0 := l0 w hSw; have r0 := m0 w hSw; have q1 := l1 w hSw; have r1 := m1 w hSw; have q2 := l2 w hSw; have r2 := m2 w hSw; have q3 := l3 w hSw; have r3 := m3 w hSw; go_simp <;> with_reducible rfl)
  simp only [Act.put, List.setIfInBounds_toArray, List.set_cons_zero, List.set_cons_succ]
  refine wpAnyH_ready (rs := [22]) (by as_aux_lemma => kernel_rfl) (by simp) ?_
  refine AllReadyH.cons (o := { dst := some 38, op := Op.call { callee := Callee.value (Operand.func 22), args := #[Operand.tmp 37], argTypes := #[39] }, type := 3, pos := "law.go:20", after := #[{ on := 21, ground := Ground.data }, { on := 20, ground := Ground.chain }, { on := 20, ground := Ground.guard }], guard := some (20, true) }) rfl (fun K hK => ?_) (by exact AllReadyH.nil)
  rw [if_pos (by rfl)]
  go_simp
  refine (num_any9 0 _).mono ?_
  rintro e u6 ⟨rfl, rfl⟩
  refine hK.out _ _ (by (try dsimp only); (first | exact hS9 | exact hS8 | exact hS7 | exact hS5 | exact balloc hS3 _ | exact hS3 | exact hS2 | exact hS1)) (fun hHeld => ?_)
  clear hK K
  simp only [List.setIfInBounds_toArray, List.set_cons_zero, List.set_cons_succ]
  refine wpAnyH_take (i := 23) (oi := { dst := some 39, op := Op.binOp BinOp.eql 3 (Operand.tmp 38) (Operand.const (Value.int IntKind.i64 0)) 3, type := 4, pos := "law.go:20", after := #[{ on := 22, ground := Ground.data }, { on := 20, ground := Ground.guard }], guard := some (20, true) }) (v := ?vq23) rfl (by as_aux_lemma => kernel_rfl) (by as_aux_lemma => kernel_rfl) (by as_aux_lemma => kernel_rfl) (fun _ _ _ h => h) (Or.inl ⟨by rfl, ?yq23⟩) (by assumption) ?rq23
  case yq23 => (intro w hSw; (try dsimp only at hSw); have q0 := l0 w hSw; have r0 := m0 w hSw; have q1 := l1 w hSw; have r1 := m1 w hSw; have q2 := l2 w hSw; have r2 := m2 w hSw; have q3 := l3 w hSw; have r3 := m3 w hSw; go_simp <;> with_reducible rfl)
  simp only [Act.put, List.setIfInBounds_toArray, List.set_cons_zero, List.set_cons_succ]
  refine wpAnyH_take (i := 24) (oi := { dst := some 40, op := Op.pick (Operand.tmp 36) (Operand.tmp 39) (Operand.const (Value.bool false)), type := 4, pos := "law.go:20", after := #[{ on := 20, ground := Ground.data }, { on := 23, ground := Ground.data }], guard := none }) (v := ?vq24) rfl (by as_aux_lemma => kernel_rfl) (by as_aux_lemma => kernel_rfl) (by as_aux_lemma => kernel_rfl) (fun _ _ _ h => h) (Or.inl ⟨by rfl, ?yq24⟩) (by assumption) ?rq24
  case yq24 => (intro w hSw; (try dsimp only at hSw); have q0 := l0 w hSw; have r0 := m0 w hSw; have q1 := l1 w hSw; have r1 := m1 w hSw; have q2 := l2 w hSw; have r2 := m2 w hSw; have q3 := l3 w hSw; have r3 := m3 w hSw; go_simp <;> with_reducible rfl)
  simp only [Act.put, List.setIfInBounds_toArray, List.set_cons_zero, List.set_cons_succ]
  refine wpAnyH_take (i := 25) (oi := { dst := some 41, op := Op.move (Operand.tmp 40), type := 4, pos := "law.go:20", after := #[{ on := 24, ground := Ground.data }, { on := 22, ground := Ground.chain }], guard := none }) (v := ?vq25) rfl (by as_aux_lemma => kernel_rfl) (by as_aux_lemma => kernel_rfl) (by as_aux_lemma => kernel_rfl) (fun _ _ _ h => h) (Or.inl ⟨by rfl, ?yq25⟩) (by assumption) ?rq25
  case yq25 => (intro w hSw; (try dsimp only at hSw); have q0 := l0 w hSw; have r0 := m0 w hSw; have q1 := l1 w hSw; have r1 := m1 w hSw; have q2 := l2 w hSw; have r2 := m2 w hSw; have q3 := l3 w hSw; have r3 := m3 w hSw; go_simp <;> with_reducible rfl)
  simp only [Act.put, List.setIfInBounds_toArray, List.set_cons_zero, List.set_cons_succ]
  refine wpAnyH_take (i := 26) (oi := { dst := some 42, op := Op.load 26 (Operand.tmp 4), type := 26, pos := "law.go:20", after := #[{ on := 25, ground := Ground.guard }], guard := some (25, true) }) (v := ?vq26) rfl (by as_aux_lemma => kernel_rfl) (by as_aux_lemma => kernel_rfl) (by as_aux_lemma => kernel_rfl) (fun _ _ _ h => h) (Or.inl ⟨by rfl, ?yq26⟩) (by assumption) ?rq26
  case yq26 => (intro w hSw; (try dsimp only at hSw); have q0 := l0 w hSw; have r0 := m0 w hSw; have q1 := l1 w hSw; have r1 := m1 w hSw; have q2 := l2 w hSw; have r2 := m2 w hSw; have q3 := l3 w hSw; have r3 := m3 w hSw; go_simp <;> with_reducible rfl)
  simp only [Act.put, List.setIfInBounds_toArray, List.set_cons_zero, List.set_cons_succ]
  refine wpAnyH_take (i := 27) (oi := { dst := some 43, op := Op.build 29 #[(0, Operand.tmp 42), (1, Operand.const (Value.int IntKind.u64 2))], type := 29, pos := "law.go:20", after := #[{ on := 26, ground := Ground.data }, { on := 25, ground := Ground.guard }], guard := some (25, true) }) (v := ?vq27) rfl (by as_aux_lemma => kernel_rfl) (by as_aux_lemma => kernel_rfl) (by as_aux_lemma => kernel_rfl) (fun _ _ _ h => h) (Or.inl ⟨by rfl, ?yq27⟩) (by assumption) ?rq27
  case yq27 => (intro w hSw; (try dsimp only at hSw); have q0 := l0 w hSw; have r0 := m0 w hSw; have q1 := l1 w hSw; have r1 := m1 w hSw; have q2 := l2 w hSw; have r2 := m2 w hSw; have q3 := l3 w hSw; have r3 := m3 w hSw; go_simp <;> with_reducible rfl)
  simp only [Act.put, List.setIfInBounds_toArray, List.set_cons_zero, List.set_cons_succ]
  refine wpAnyH_take (i := 28) (oi := { dst := some 44, op := Op.load 26 (Operand.tmp 5), type := 26, pos := "law.go:20", after := #[{ on := 25, ground := Ground.guard }], guard := some (25, true) }) (v := ?vq28) rfl (by as_aux_lemma => kernel_rfl) (by as_aux_lemma => kernel_rfl) (by as_aux_lemma => kernel_rfl) (fun _ _ _ h => h) (Or.inl ⟨by rfl, ?yq28⟩) (by assumption) ?rq28
  case yq28 => (intro w hSw; (try dsimp only at hSw); have q0 := l0 w hSw; have r0 := m0 w hSw; have q1 := l1 w hSw; have r1 := m1 w hSw; have q2 := l2 w hSw; have r2 := m2 w hSw; have q3 := l3 w hSw; have r3 := m3 w hSw; go_simp <;> with_reducible rfl)
  simp only [Act.put, List.setIfInBounds_toArray, List.set_cons_zero, List.set_cons_succ]
  refine wpAnyH_take (i := 29) (oi := { dst := some 45, op := Op.build 29 #[(0, Operand.tmp 44), (1, Operand.const (Value.int IntKind.u64 2))], type := 29, pos := "law.go:20", after := #[{ on := 28, ground := Ground.data }, { on := 25, ground := Ground.guard }], guard := some (25, true) }) (v := ?vq29) rfl (by as_aux_lemma => kernel_rfl) (by as_aux_lemma => kernel_rfl) (by as_aux_lemma => kernel_rfl) (fun _ _ _ h => h) (Or.inl ⟨by rfl, ?yq29⟩) (by assumption) ?rq29
  case yq29 => (intro w hSw; (try dsimp only at hSw); have q0 := l0 w hSw; have r0 := m0 w hSw; have q1 := l1 w hSw; have r1 := m1 w hSw; have q2 := l2 w hSw; have r2 := m2 w hSw; have q3 := l3 w hSw; have r3 := m3 w hSw; go_simp <;> with_reducible rfl)
  simp only [Act.put, List.setIfInBounds_toArray, List.set_cons_zero, List.set_cons_succ]
  refine wpAnyH_ready (rs := [30]) (by as_aux_lemma => kernel_rfl) (by simp) ?_
  refine AllReadyH.cons (o := { dst := some 46, op := Op.call { callee := Callee.value (Operand.func 27), args := #[Operand.tmp 43, Operand.tmp 45, Operand.const (Value.int IntKind.u64 1)], argTypes := #[29, 29, 27] }, type := 4, pos := "law.go:20", after := #[{ on := 27, ground := Ground.data }, { on := 29, ground := Ground.data }, { on := 25, ground := Ground.chain }, { on := 25, ground := Ground.guard }], guard := some (25, true) }) rfl (fun K hK => ?_) (by exact AllReadyH.nil)
  rw [if_pos (by rfl)]
  go_simp
  refine (HS1.out _).mono ?_
  rintro e u7 ⟨rfl, hu7⟩
  have hS7 := rstep hu7 hS5
  refine hK.out _ _ (by (try dsimp only); (first | exact hS9 | exact hS8 | exact hS7 | exact hS5 | exact balloc hS3 _ | exact hS3 | exact hS2 | exact hS1)) (fun hHeld => ?_)
  clear hK K
  simp only [List.setIfInBounds_toArray, List.set_cons_zero, List.set_cons_succ]
  refine wpAnyH_take (i := 31) (oi := { dst := some 47, op := Op.pick (Operand.tmp 41) (Operand.tmp 46) (Operand.const (Value.bool false)), type := 4, pos := "law.go:20", after := #[{ on := 25, ground := Ground.data }, { on := 30, ground := Ground.data }], guard := none }) (v := ?vq31) rfl (by as_aux_lemma => kernel_rfl) (by as_aux_lemma => kernel_rfl) (by as_aux_lemma => kernel_rfl) (fun _ _ _ h => h) (Or.inl ⟨by rfl, ?yq31⟩) (by assumption) ?rq31
  case yq31 => (intro w hSw; (try dsimp only at hSw); have q0 := l0 w hSw; have r0 := m0 w hSw; have q1 := l1 w hSw; have r1 := m1 w hSw; have q2 := l2 w hSw; have r2 := m2 w hSw; have q3 := l3 w hSw; have r3 := m3 w hSw; go_simp <;> with_reducible rfl)
  simp only [Act.put, List.setIfInBounds_toArray, List.set_cons_zero, List.set_cons_succ]
  refine wpAnyH_take (i := 32) (oi := { dst := some 48, op := Op.move (Operand.tmp 47), type := 4, pos := "law.go:20", after := #[{ on := 31, ground := Ground.data }, { on := 30, ground := Ground.chain }], guard := none }) (v := ?vq32) rfl (by as_aux_lemma => kernel_rfl) (by as_aux_lemma => kernel_rfl) (by as_aux_lemma => kernel_rfl) (fun _ _ _ h => h) (Or.inl ⟨by rfl, ?yq32⟩) (by assumption) ?rq32
  case yq32 => (intro w hSw; (try dsimp only at hSw); have q0 := l0 w hSw; have r0 := m0 w hSw; have q1 := l1 w hSw; have r1 := m1 w hSw; have q2 := l2 w hSw; have r2 := m2 w hSw; have q3 := l3 w hSw; have r3 := m3 w hSw; go_simp <;> with_reducible rfl)
  simp only [Act.put, List.setIfInBounds_toArray, List.set_cons_zero, List.set_cons_succ]
  refine wpAnyH_take (i := 33) (oi := { dst := some 49, op := Op.load 26 (Operand.tmp 4), type := 26, pos := "law.go:20", after := #[{ on := 32, ground := Ground.guard }], guard := some (32, true) }) (v := ?vq33) rfl (by as_aux_lemma => kernel_rfl) (by as_aux_lemma => kernel_rfl) (by as_aux_lemma => kernel_rfl) (fun _ _ _ h => h) (Or.inl ⟨by rfl, ?yq33⟩) (by assumption) ?rq33
  case yq33 => (intro w hSw; (try dsimp only at hSw); have q0 := l0 w hSw; have r0 := m0 w hSw; have q1 := l1 w hSw; have r1 := m1 w hSw; have q2 := l2 w hSw; have r2 := m2 w hSw; have q3 := l3 w hSw; have r3 := m3 w hSw; go_simp <;> with_reducible rfl)
  simp only [Act.put, List.setIfInBounds_toArray, List.set_cons_zero, List.set_cons_succ]
  refine wpAnyH_take (i := 34) (oi := { dst := some 50, op := Op.build 29 #[(0, Operand.tmp 49), (1, Operand.const (Value.int IntKind.u64 1))], type := 29, pos := "law.go:20", after := #[{ on := 33, ground := Ground.data }, { on := 32, ground := Ground.guard }], guard := some (32, true) }) (v := ?vq34) rfl (by as_aux_lemma => kernel_rfl) (by as_aux_lemma => kernel_rfl) (by as_aux_lemma => kernel_rfl) (fun _ _ _ h => h) (Or.inl ⟨by rfl, ?yq34⟩) (by assumption) ?rq34
  case yq34 => (intro w hSw; (try dsimp only at hSw); have q0 := l0 w hSw; have r0 := m0 w hSw; have q1 := l1 w hSw; have r1 := m1 w hSw; have q2 := l2 w hSw; have r2 := m2 w hSw; have q3 := l3 w hSw; have r3 := m3 w hSw; go_simp <;> with_reducible rfl)
  simp only [Act.put, List.setIfInBounds_toArray, List.set_cons_zero, List.set_cons_succ]
  refine wpAnyH_take (i := 35) (oi := { dst := some 51, op := Op.load 26 (Operand.tmp 5), type := 26, pos := "law.go:20", after := #[{ on := 32, ground := Ground.guard }], guard := some (32, true) }) (v := ?vq35) rfl (by as_aux_lemma => kernel_rfl) (by as_aux_lemma => kernel_rfl) (by as_aux_lemma => kernel_rfl) (fun _ _ _ h => h) (Or.inl ⟨by rfl, ?yq35⟩) (by assumption) ?rq35
  case yq35 => (intro w hSw; (try dsimp only at hSw); have q0 := l0 w hSw; have r0 := m0 w hSw; have q1 := l1 w hSw; have r1 := m1 w hSw; have q2 := l2 w hSw; have r2 := m2 w hSw; have q3 := l3 w hSw; have r3 := m3 w hSw; go_simp <;> with_reducible rfl)
  simp only [Act.put, List.setIfInBounds_toArray, List.set_cons_zero, List.set_cons_succ]
  refine wpAnyH_take (i := 36) (oi := { dst := some 52, op := Op.build 29 #[(0, Operand.tmp 51), (1, Operand.const (Value.int IntKind.u64 1))], type := 29, pos := "law.go:20", after := #[{ on := 35, ground := Ground.data }, { on := 32, ground := Ground.guard }], guard := some (32, true) }) (v := ?vq36) rfl (by as_aux_lemma => kernel_rfl) (by as_aux_lemma => kernel_rfl) (by as_aux_lemma => kernel_rfl) (fun _ _ _ h => h) (Or.inl ⟨by rfl, ?yq36⟩) (by assumption) ?rq36
  case yq36 => (intro w hSw; (try dsimp only at hSw); have q0 := l0 w hSw; have r0 := m0 w hSw; have q1 := l1 w hSw; have r1 := m1 w hSw; have q2 := l2 w hSw; have r2 := m2 w hSw; have q3 := l3 w hSw; have r3 := m3 w hSw; go_simp <;> with_reducible rfl)
  simp only [Act.put, List.setIfInBounds_toArray, List.set_cons_zero, List.set_cons_succ]
  refine wpAnyH_ready (rs := [37]) (by as_aux_lemma => kernel_rfl) (by simp) ?_
  refine AllReadyH.cons (o := { dst := some 53, op := Op.call { callee := Callee.value (Operand.func 27), args := #[Operand.tmp 50, Operand.tmp 52, Operand.const (Value.int IntKind.u64 1)], argTypes := #[29, 29, 27] }, type := 4, pos := "law.go:20", after := #[{ on := 34, ground := Ground.data }, { on := 36, ground := Ground.data }, { on := 32, ground := Ground.chain }, { on := 32, ground := Ground.guard }], guard := some (32, true) }) rfl (fun K hK => ?_) (by exact AllReadyH.nil)
  rw [if_pos (by rfl)]
  go_simp
  refine (HS2.out _).mono ?_
  rintro e u8 ⟨rfl, hu8⟩
  have hS8 := rstep hu8 hS7
  refine hK.out _ _ (by (try dsimp only); (first | exact hS9 | exact hS8 | exact hS7 | exact hS5 | exact balloc hS3 _ | exact hS3 | exact hS2 | exact hS1)) (fun hHeld => ?_)
  clear hK K
  simp only [List.setIfInBounds_toArray, List.set_cons_zero, List.set_cons_succ]
  refine wpAnyH_take (i := 38) (oi := { dst := some 54, op := Op.unOp UnOp.not 4 (Operand.tmp 53), type := 4, pos := "law.go:20", after := #[{ on := 37, ground := Ground.data }, { on := 32, ground := Ground.guard }], guard := some (32, true) }) (v := ?vq38) rfl (by as_aux_lemma => kernel_rfl) (by as_aux_lemma => kernel_rfl) (by as_aux_lemma => kernel_rfl) (fun _ _ _ h => h) (Or.inl ⟨by rfl, ?yq38⟩) (by assumption) ?rq38
  case yq38 => (intro w hSw; (try dsimp only at hSw); have q0 := l0 w hSw; have r0 := m0 w hSw; have q1 := l1 w hSw; have r1 := m1 w hSw; have q2 := l2 w hSw; have r2 := m2 w hSw; have q3 := l3 w hSw; have r3 := m3 w hSw; go_simp <;> with_reducible rfl)
  simp only [Act.put, List.setIfInBounds_toArray, List.set_cons_zero, List.set_cons_succ]
  refine wpAnyH_take (i := 39) (oi := { dst := some 55, op := Op.pick (Operand.tmp 48) (Operand.tmp 54) (Operand.const (Value.bool false)), type := 4, pos := "law.go:20", after := #[{ on := 32, ground := Ground.data }, { on := 38, ground := Ground.data }], guard := none }) (v := ?vq39) rfl (by as_aux_lemma => kernel_rfl) (by as_aux_lemma => kernel_rfl) (by as_aux_lemma => kernel_rfl) (fun _ _ _ h => h) (Or.inl ⟨by rfl, ?yq39⟩) (by assumption) ?rq39
  case yq39 => (intro w hSw; (try dsimp only at hSw); have q0 := l0 w hSw; have r0 := m0 w hSw; have q1 := l1 w hSw; have r1 := m1 w hSw; have q2 := l2 w hSw; have r2 := m2 w hSw; have q3 := l3 w hSw; have r3 := m3 w hSw; go_simp <;> with_reducible rfl)
  simp only [Act.put, List.setIfInBounds_toArray, List.set_cons_zero, List.set_cons_succ]
  refine wpAnyH_take (i := 40) (oi := { dst := some 56, op := Op.move (Operand.tmp 55), type := 4, pos := "law.go:20", after := #[{ on := 39, ground := Ground.data }, { on := 37, ground := Ground.chain }], guard := none }) (v := ?vq40) rfl (by as_aux_lemma => kernel_rfl) (by as_aux_lemma => kernel_rfl) (by as_aux_lemma => kernel_rfl) (fun _ _ _ h => h) (Or.inl ⟨by rfl, ?yq40⟩) (by assumption) ?rq40
  case yq40 => (intro w hSw; (try dsimp only at hSw); have q0 := l0 w hSw; have r0 := m0 w hSw; have q1 := l1 w hSw; have r1 := m1 w hSw; have q2 := l2 w hSw; have r2 := m2 w hSw; have q3 := l3 w hSw; have r3 := m3 w hSw; go_simp <;> with_reducible rfl)
  simp only [Act.put, List.setIfInBounds_toArray, List.set_cons_zero, List.set_cons_succ]
  refine wpAnyH_take (i := 41) (oi := { dst := some 57, op := Op.load 26 (Operand.tmp 4), type := 26, pos := "law.go:20", after := #[{ on := 40, ground := Ground.guard }], guard := some (40, true) }) (v := ?vq41) rfl (by as_aux_lemma => kernel_rfl) (by as_aux_lemma => kernel_rfl) (by as_aux_lemma => kernel_rfl) (fun _ _ _ h => h) (Or.inl ⟨by rfl, ?yq41⟩) (by assumption) ?rq41
  case yq41 => (intro w hSw; (try dsimp only at hSw); have q0 := l0 w hSw; have r0 := m0 w hSw; have q1 := l1 w hSw; have r1 := m1 w hSw; have q2 := l2 w hSw; have r2 := m2 w hSw; have q3 := l3 w hSw; have r3 := m3 w hSw; go_simp <;> with_reducible rfl)
  simp only [Act.put, List.setIfInBounds_toArray, List.set_cons_zero, List.set_cons_succ]
  refine wpAnyH_take (i := 42) (oi := { dst := some 58, op := Op.build 29 #[(0, Operand.tmp 57), (1, Operand.const (Value.int IntKind.u64 1))], type := 29, pos := "law.go:20", after := #[{ on := 41, ground := Ground.data }, { on := 40, ground := Ground.guard }], guard := some (40, true) }) (v := ?vq42) rfl (by as_aux_lemma => kernel_rfl) (by as_aux_lemma => kernel_rfl) (by as_aux_lemma => kernel_rfl) (fun _ _ _ h => h) (Or.inl ⟨by rfl, ?yq42⟩) (by assumption) ?rq42
  case yq42 => (intro w hSw; (try dsimp only at hSw); have q0 := l0 w hSw; have r0 := m0 w hSw; have q1 := l1 w hSw; have r1 := m1 w hSw; have q2 := l2 w hSw; have r2 := m2 w hSw; have q3 := l3 w hSw; have r3 := m3 w hSw; go_simp <;> with_reducible rfl)
  simp only [Act.put, List.setIfInBounds_toArray, List.set_cons_zero, List.set_cons_succ]
  refine wpAnyH_take (i := 43) (oi := { dst := some 59, op := Op.load 26 (Operand.tmp 4), type := 26, pos := "law.go:20", after := #[{ on := 40, ground := Ground.guard }], guard := some (40, true) }) (v := ?vq43) rfl (by as_aux_lemma => kernel_rfl) (by as_aux_lemma => kernel_rfl) (by as_aux_lemma => kernel_rfl) (fun _ _ _ h => h) (Or.inl ⟨by rfl, ?yq43⟩) (by assumption) ?rq43
  case yq43 => (intro w hSw; (try dsimp only at hSw); have q0 := l0 w hSw; have r0 := m0 w hSw; have q1 := l1 w hSw; have r1 := m1 w hSw; have q2 := l2 w hSw; have r2 := m2 w hSw; have q3 := l3 w hSw; have r3 := m3 w hSw; go_simp <;> with_reducible rfl)
  simp only [Act.put, List.setIfInBounds_toArray, List.set_cons_zero, List.set_cons_succ]
  refine wpAnyH_take (i := 44) (oi := { dst := some 60, op := Op.build 29 #[(0, Operand.tmp 59), (1, Operand.const (Value.int IntKind.u64 2))], type := 29, pos := "law.go:20", after := #[{ on := 43, ground := Ground.data }, { on := 40, ground := Ground.guard }], guard := some (40, true) }) (v := ?vq44) rfl (by as_aux_lemma => kernel_rfl) (by as_aux_lemma => kernel_rfl) (by as_aux_lemma => kernel_rfl) (fun _ _ _ h => h) (Or.inl ⟨by rfl, ?yq44⟩) (by assumption) ?rq44
  case yq44 => (intro w hSw; (try dsimp only at hSw); have q0 := l0 w hSw; have r0 := m0 w hSw; have q1 := l1 w hSw; have r1 := m1 w hSw; have q2 := l2 w hSw; have r2 := m2 w hSw; have q3 := l3 w hSw; have r3 := m3 w hSw; go_simp <;> with_reducible rfl)
  simp only [Act.put, List.setIfInBounds_toArray, List.set_cons_zero, List.set_cons_succ]
  refine wpAnyH_ready (rs := [45]) (by as_aux_lemma => kernel_rfl) (by simp) ?_
  refine AllReadyH.cons (o := { dst := some 61, op := Op.call { callee := Callee.value (Operand.func 27), args := #[Operand.tmp 58, Operand.tmp 60, Operand.const (Value.int IntKind.u64 3)], argTypes := #[29, 29, 27] }, type := 4, pos := "law.go:20", after := #[{ on := 42, ground := Ground.data }, { on := 44, ground := Ground.data }, { on := 40, ground := Ground.chain }, { on := 40, ground := Ground.guard }], guard := some (40, true) }) rfl (fun K hK => ?_) (by exact AllReadyH.nil)
  rw [if_pos (by rfl)]
  go_simp
  refine (HS3.out _).mono ?_
  rintro e u9 ⟨rfl, hu9⟩
  have hS9 := rstep hu9 hS8
  refine hK.out _ _ (by (try dsimp only); (first | exact hS9 | exact hS8 | exact hS7 | exact hS5 | exact balloc hS3 _ | exact hS3 | exact hS2 | exact hS1)) (fun hHeld => ?_)
  clear hK K
  simp only [List.setIfInBounds_toArray, List.set_cons_zero, List.set_cons_succ]
  refine wpAnyH_take (i := 46) (oi := { dst := some 62, op := Op.unOp UnOp.not 4 (Operand.tmp 61), type := 4, pos := "law.go:20", after := #[{ on := 45, ground := Ground.data }, { on := 40, ground := Ground.guard }], guard := some (40, true) }) (v := ?vq46) rfl (by as_aux_lemma => kernel_rfl) (by as_aux_lemma => kernel_rfl) (by as_aux_lemma => kernel_rfl) (fun _ _ _ h => h) (Or.inl ⟨by rfl, ?yq46⟩) (by assumption) ?rq46
  case yq46 => (intro w hSw; (try dsimp only at hSw); have q0 := l0 w hSw; have r0 := m0 w hSw; have q1 := l1 w hSw; have r1 := m1 w hSw; have q2 := l2 w hSw; have r2 := m2 w hSw; have q3 := l3 w hSw; have r3 := m3 w hSw; go_simp <;> with_reducible rfl)
  simp only [Act.put, List.setIfInBounds_toArray, List.set_cons_zero, List.set_cons_succ]
  refine wpAnyH_take (i := 47) (oi := { dst := some 63, op := Op.pick (Operand.tmp 56) (Operand.tmp 62) (Operand.const (Value.bool false)), type := 4, pos := "law.go:20", after := #[{ on := 40, ground := Ground.data }, { on := 46, ground := Ground.data }], guard := none }) (v := ?vq47) rfl (by as_aux_lemma => kernel_rfl) (by as_aux_lemma => kernel_rfl) (by as_aux_lemma => kernel_rfl) (fun _ _ _ h => h) (Or.inl ⟨by rfl, ?yq47⟩) (by assumption) ?rq47
  case yq47 => (intro w hSw; (try dsimp only at hSw); have q0 := l0 w hSw; have r0 := m0 w hSw; have q1 := l1 w hSw; have r1 := m1 w hSw; have q2 := l2 w hSw; have r2 := m2 w hSw; have q3 := l3 w hSw; have r3 := m3 w hSw; go_simp <;> with_reducible rfl)
  simp only [Act.put, List.setIfInBounds_toArray, List.set_cons_zero, List.set_cons_succ]
  refine wpAnyH_take (i := 48) (oi := { dst := some 0, op := Op.assign (Operand.tmp 63), type := 4, pos := "law.go:20", after := #[{ on := 47, ground := Ground.data }, { on := 45, ground := Ground.chain }, { on := 0, ground := Ground.phase }, { on := 1, ground := Ground.phase }, { on := 2, ground := Ground.phase }, { on := 3, ground := Ground.phase }, { on := 4, ground := Ground.phase }, { on := 5, ground := Ground.phase }, { on := 6, ground := Ground.phase }, { on := 7, ground := Ground.phase }, { on := 8, ground := Ground.phase }, { on := 9, ground := Ground.phase }, { on := 10, ground := Ground.phase }, { on := 11, ground := Ground.phase }, { on := 12, ground := Ground.phase }, { on := 13, ground := Ground.phase }, { on := 14, ground := Ground.phase }, { on := 15, ground := Ground.phase }, { on := 16, ground := Ground.phase }, { on := 17, ground := Ground.phase }, { on := 18, ground := Ground.phase }, { on := 19, ground := Ground.phase }, { on := 20, ground := Ground.phase }, { on := 21, ground := Ground.phase }, { on := 22, ground := Ground.phase }, { on := 23, ground := Ground.phase }, { on := 24, ground := Ground.phase }, { on := 25, ground := Ground.phase }, { on := 26, ground := Ground.phase }, { on := 27, ground := Ground.phase }, { on := 28, ground := Ground.phase }, { on := 29, ground := Ground.phase }, { on := 30, ground := Ground.phase }, { on := 31, ground := Ground.phase }, { on := 32, ground := Ground.phase }, { on := 33, ground := Ground.phase }, { on := 34, ground := Ground.phase }, { on := 35, ground := Ground.phase }, { on := 36, ground := Ground.phase }, { on := 37, ground := Ground.phase }, { on := 38, ground := Ground.phase }, { on := 39, ground := Ground.phase }, { on := 40, ground := Ground.phase }, { on := 41, ground := Ground.phase }, { on := 42, ground := Ground.phase }, { on := 43, ground := Ground.phase }, { on := 44, ground := Ground.phase }, { on := 45, ground := Ground.phase }, { on := 46, ground := Ground.phase }, { on := 47, ground := Ground.phase }], guard := none }) (v := ?vq48) rfl (by as_aux_lemma => kernel_rfl) (by as_aux_lemma => kernel_rfl) (by as_aux_lemma => kernel_rfl) (fun _ _ _ h => h) (Or.inl ⟨by rfl, ?yq48⟩) (by assumption) ?rq48
  case yq48 => (intro w hSw; (try dsimp only at hSw); have q0 := l0 w hSw; have r0 := m0 w hSw; have q1 := l1 w hSw; have r1 := m1 w hSw; have q2 := l2 w hSw; have r2 := m2 w hSw; have q3 := l3 w hSw; have r3 := m3 w hSw; go_simp <;> with_reducible rfl)
  simp only [Act.put, List.setIfInBounds_toArray, List.set_cons_zero, List.set_cons_succ]
  refine wpAnyH_done (by as_aux_lemma => kernel_rfl) ?_ _
  go_wp2_with fail
  go_ret
  exact ⟨rfl, bstep HV.out hS9⟩
end Go.Proofs.Ytkhdjlahfbmkoaa
