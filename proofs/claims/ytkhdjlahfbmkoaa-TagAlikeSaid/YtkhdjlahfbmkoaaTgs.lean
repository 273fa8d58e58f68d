/- tag: TagCells' walk. -/
import Derived.Test.YtkhdjlahfbmkoaaTgr
import Derived.Lib.SmallJoins
namespace Go.Proofs.Ytkhdjlahfbmkoaa
open Go.RowKit Go.Shelf

/-- Bytes as a string. -/
def toS (l : List Nat) : ByteArray := ⟨(l.map UInt8.ofNat).toArray⟩
theorem fold_toS (l : List Nat) : ∀ r : ByteArray, (l.map fun n : Nat => (n : Int)).foldl (fun r n => r.push (UInt8.ofNat n.toNat)) r = ⟨r.data ++ (l.map UInt8.ofNat).toArray⟩ := by
  induction l with
  | nil => intro r; simp
  | cons a l ih =>
    intro r
    simp only [List.map_cons, List.foldl_cons]
    rw [ih]
    cases r
    simp [ByteArray.push]
theorem conv_byteso (B : Nat) (v : Value) (l : List Nat) (w : World) (h : Bto B w v l) (hl : l.length ≤ 100000) : (convert 23 9 v).run Try.prog w = .ok (.string (toS l)) w := by
  obtain ⟨h1, x, cap, rfl, h3, h4, h5⟩ := h
  rw [run_convert_bytes_string w _ _ 5 x _ _ (by kernel_rfl) (by kernel_rfl) (by kernel_rfl)]
  by_cases h0 : l = []
  · subst h0
    cases x with
    | none => rfl
    | some a =>
      exact run_bytesToString (P := Try.prog) w a 0 cap [] (run_loadCells_list (P := Try.prog) w a [] (fun j u hj => by simp at hj))
  · obtain ⟨b, o, rfl, _, _, hc⟩ := h5 h0
    have hload : (loadCells ⟨b, o, none⟩ l.length).run Try.prog w = .ok ((l.map fun n : Nat => (n : Int)).map (Value.int .u8)).toArray w := by
      have h := run_loadCells_list (P := Try.prog) w ⟨b, o, none⟩ (bvs l) (fun j u hj => by
        rw [bvs_get] at hj
        cases hmj : l[j]? with
        | none => rw [hmj] at hj; cases hj
        | some z =>
          rw [hmj] at hj
          cases hj
          rw [Go.WideShapes.add_plain]
          exact hc j z hmj)
      rw [bvs_len] at h
      rw [h, List.map_map]
      rfl
    rw [run_bytesToString w _ _ _ (l.map fun n : Nat => (n : Int)) hload, fold_toS]
    simp [toS]

theorem equal_same {u : World} {g base m : Nat} {v' : Value} {L : List (Nat × Nat)} (hL : L.length = m) (hm : m ≤ 1000000) (hok : ∀ c ∈ L, okC c) (h1 : Blk u g 53 (cvs L).toArray) (h2 : OwT u base v' L) :
    Calls Try.prog 8 #[.slice (some ⟨g, 0, none⟩) m m, v'] u fun e w' => e = .returned (.bool true) ∧ Below u.heap.size u w' := by
  have h3 := Cs.of_blk h1 hok (by omega)
  rw [hL] at h3
  have h4 := equal_any9 _ _ _ _ _ _ _ h3 h2.cs
  rwa [alB_refl] at h4
theorem conv_row {u : World} {g m : Nat} {L : List Nat} (hL : L.length = m) (hm : m ≤ 100000) (hok : ∀ c ∈ L, c < 256) (h1 : Blk u g 5 (bvs L).toArray) (Z : World) (hZ : Below u.heap.size u Z) :
    (convert 23 9 (.slice (some ⟨g, 0, none⟩) m m)).run Try.prog Z = .ok (.string (toS L)) Z := by
  have h3 := Bto.of_row (h1.keep hZ) hok (by omega)
  rw [hL] at h3
  exact conv_byteso _ _ L Z h3 (by omega)
set_option maxRecDepth 100000 in
set_option maxHeartbeats 4000000 in
theorem tcells_walk (B : Nat) (v vb : Value) (l : List (Nat × Nat)) (b : List Nat) (n a : Nat) (ha : a < 2 ^ 64) (w : World) (hB : B ≤ w.heap.size) (hv : Cs B w v l) (hb : Bto B w vb b) :
    Calls Try.prog 3 #[v, vb, vV n a] w fun e w' => e = .returned (.bool true) ∧ Below w.heap.size w w' := by
  obtain ⟨x, c, rfl⟩ := hv.is
  obtain ⟨y, cb, rfl⟩ : ∃ y cb, vb = .slice y b.length cb := by obtain ⟨_, x, c, h, _⟩ := hb; exact ⟨x, c, h⟩
  by_cases h1 : 200 < l.length
  · have h1I : (200 : Int) < (l.length : Int) := by omega
    have HW0 := Lib.hid (balloc (Below.refl w.heap.size w) (.cells (vA n a) 29))
    clear hv hb hB h1
    go_enter Try.func3, Try.ntmps3
    go_wp2_with (first | (go_at_call 7; refine (tworks_any _).mono ?_; rintro e wz ⟨rfl, hz⟩; have HZ := Lib.hid hz; clear hz) | fail)
    go_ret
    exact ⟨rfl, bstep HW0.out HZ.out⟩
  · by_cases h2 : 200 < b.length
    · have h1I : ¬ (200 : Int) < (l.length : Int) := by omega
      have h2I : (200 : Int) < (b.length : Int) := by omega
      have HW0 := Lib.hid (balloc (Below.refl w.heap.size w) (.cells (vA n a) 29))
      clear hv hb hB h1 h2
      go_enter Try.func3, Try.ntmps3
      go_wp2_with (first | (go_at_call 7; refine (tworks_any _).mono ?_; rintro e wz ⟨rfl, hz⟩; have HZ := Lib.hid hz; clear hz) | fail)
      go_ret
      exact ⟨rfl, bstep HW0.out HZ.out⟩
    · have h1I : ¬ (200 : Int) < (l.length : Int) := by omega
      have h2I : ¬ (200 : Int) < (b.length : Int) := by omega
      obtain ⟨V, hV⟩ : ∃ V, w.alloc (.cells (vA n a) 29) = V := ⟨_, rfl⟩
      have hal : Below w.heap.size w V := by rw [← hV]; exact balloc (Below.refl w.heap.size w) _
      have hN : Blk V w.heap.size 29 (vA n a) := by rw [← hV]; exact Blk.new w _ _
      have hvV := hv.new hal
      have hbV := hb.new hal
      have hsV := hal.size
      have l0 : ∀ Z, Below V.heap.size V Z → Z.cell? ⟨w.heap.size, 0, none⟩ = some (.int .u64 (lb n 0)) := fun Z h => cell_of_row _ _ 0 _ _ _ (hN.keep h)
      have l1 : ∀ Z, Below V.heap.size V Z → Z.cell? ⟨w.heap.size, 1, none⟩ = some (.int .u64 (lb n 1)) := fun Z h => cell_of_row _ _ 1 _ _ _ (hN.keep h)
      have l2 : ∀ Z, Below V.heap.size V Z → Z.cell? ⟨w.heap.size, 2, none⟩ = some (.int .u64 (lb n 2)) := fun Z h => cell_of_row _ _ 2 _ _ _ (hN.keep h)
      have l3 : ∀ Z, Below V.heap.size V Z → Z.cell? ⟨w.heap.size, 3, none⟩ = some (.int .u64 (lb n 3)) := fun Z h => cell_of_row _ _ 3 _ _ _ (hN.keep h)
      have l4 : ∀ Z, Below V.heap.size V Z → Z.cell? ⟨w.heap.size, 4, none⟩ = some (.int .u64 (a : Nat)) := fun Z h => cell_of_row _ _ 4 _ _ _ (hN.keep h)
      have HX := Lib.hid (And.intro hV (And.intro hal (And.intro hvV (And.intro hbV (And.intro (show l.length ≤ 200 by omega) (And.intro (show b.length ≤ 200 by omega) (And.intro ha (Nat.le_trans hB hsV))))))))
      have hB0 : Below V.heap.size V V.drew := (Below.refl _ _).drew
      clear hv hb hB h1 h2 ha hV hal hN hvV hbV hsV
      go_enter Try.func3, Try.ntmps3
      go_upto_region 3 with fail
      rw [HX.out.1]
      have HOF := Lib.hid (fun (Z : World) (h : Below V.heap.size V Z) => tof_any B a HX.out.2.2.2.2.2.2.1 _ b (by have := HX.out.2.2.2.2.2.1; omega) Z (HX.out.2.2.2.1.new h))
      have HRO := Lib.hid (fun (Z : World) (h : Below V.heap.size V Z) => rtof_any B a HX.out.2.2.2.2.2.2.1 _ b (by have := HX.out.2.2.2.2.2.1; omega) Z (HX.out.2.2.2.1.new h))
      have HCS := Lib.hid (fun (Z : World) (h : Below V.heap.size V Z) => (HX.out.2.2.1.new h : Cs B Z (.slice x l.length c) l))
      have HOB := Lib.hid (show ∀ c ∈ b.map (fun x => (x, a)), okC c from fun c hc => by obtain ⟨q, hq, rfl⟩ := List.mem_map.1 hc; exact ⟨HX.out.2.2.2.1.1 q hq, HX.out.2.2.2.2.2.2.1⟩)
      have HOJ := Lib.hid (show ∀ c ∈ l.map (fun x => (x.1, x.2 ||| a)), okC c from fun c hc => by obtain ⟨q, hq, rfl⟩ := List.mem_map.1 hc; exact ⟨(HX.out.2.2.1.1 q hq).1, Nat.or_lt_two_pow (n := 64) (HX.out.2.2.1.1 q hq).2 HX.out.2.2.2.2.2.2.1⟩)
      have HJJ := Lib.hid (show (l.map fun x => (x.1, a ||| x.2)) = l.map fun x => (x.1, x.2 ||| a) from List.map_congr_left fun x _ => by rw [Nat.or_comm])
      have HLF := Lib.hid (show ∀ c ∈ l.map (·.1), c < 256 from fun c hc => by obtain ⟨q, hq, rfl⟩ := List.mem_map.1 hc; exact (HX.out.2.2.1.1 q hq).1)
      have HLB := Lib.hid (And.intro (show l.length ≤ 200 from HX.out.2.2.2.2.1) (show b.length ≤ 200 from HX.out.2.2.2.2.2.1))
      have heq := eqVal_refl (nuC l) (jl (fiL l))
      have HT1 := Lib.hid (fun (Z : World) (h : Below V.heap.size V Z) => tlabel_any B _ l (by have := HX.out.2.2.2.2.1; omega) Z (HX.out.2.2.1.new h))
      have HT2 := Lib.hid (fun (Z : World) (h : Below V.heap.size V Z) => rtlabel_any B _ l (by have := HX.out.2.2.2.2.1; omega) Z (HX.out.2.2.1.new h))
      have HT3 := Lib.hid (fun (Z : World) (h : Below V.heap.size V Z) => tword_any B _ l Z (Nat.le_trans HX.out.2.2.2.2.2.2.2 h.size) (HX.out.2.2.1.new h))
      have HT4 := Lib.hid (fun (Z : World) (h : Below V.heap.size V Z) => rtword_any B _ l Z (HX.out.2.2.1.new h))
      generalize nuC l = N at *
      generalize jl (fiL l) = J at *
      generalize jl l = JL at *
      have HV := Lib.hid HX.out.2.1
      have HBV := Lib.hid HX.out.2.2.2.2.2.2.2
      have HA := Lib.hid HX.out.2.2.2.2.2.2.1
      clear HX
      refine wp_region_held_drew (S := fun Z => Below V.heap.size V Z) (by as_aux_lemma => kernel_rfl) hB0 (fun hHeld => ?_)
      simp only [List.size_toArray, List.length_cons, List.length_nil, Nat.reduceAdd, Array.replicate_succ, Array.replicate_zero, List.push_toArray, List.nil_append, List.cons_append]
      refine wpAnyH_take (i := 0) (oi := { dst := some 16, op := Op.move (Operand.tmp 1), type := 23, pos := "law.go:28", after := #[], guard := none }) (v := ?vq0) rfl (by as_aux_lemma => kernel_rfl) (by as_aux_lemma => kernel_rfl) (by as_aux_lemma => kernel_rfl) (fun _ _ _ h => h) (Or.inl ⟨by rfl, ?yq0⟩) (by assumption) ?rq0
      case yq0 => (intro wS hSw; (try dsimp only at hSw); have q0 := l0 wS hSw; have q1 := l1 wS hSw; have q2 := l2 wS hSw; have q3 := l3 wS hSw; have q4 := l4 wS hSw; go_simp <;> with_reducible rfl)
      simp only [Act.put, List.setIfInBounds_toArray, List.set_cons_zero, List.set_cons_succ]
      refine wpAnyH_take (i := 1) (oi := { dst := some 17, op := Op.fieldAddr 29 (Operand.tmp 5) 1, type := 0, pos := "law.go:28", after := #[], guard := none }) (v := ?vq1) rfl (by as_aux_lemma => kernel_rfl) (by as_aux_lemma => kernel_rfl) (by as_aux_lemma => kernel_rfl) (fun _ _ _ h => h) (Or.inl ⟨by rfl, ?yq1⟩) (by assumption) ?rq1
      case yq1 => (intro wS hSw; (try dsimp only at hSw); have q0 := l0 wS hSw; have q1 := l1 wS hSw; have q2 := l2 wS hSw; have q3 := l3 wS hSw; have q4 := l4 wS hSw; go_simp <;> with_reducible rfl)
      simp only [Act.put, List.setIfInBounds_toArray, List.set_cons_zero, List.set_cons_succ]
      refine wpAnyH_take (i := 2) (oi := { dst := some 18, op := Op.load 27 (Operand.tmp 17), type := 27, pos := "law.go:28", after := #[{ on := 1, ground := Ground.data }], guard := none }) (v := ?vq2) rfl (by as_aux_lemma => kernel_rfl) (by as_aux_lemma => kernel_rfl) (by as_aux_lemma => kernel_rfl) (fun _ _ _ h => h) (Or.inl ⟨by rfl, ?yq2⟩) (by assumption) ?rq2
      case yq2 => (intro wS hSw; (try dsimp only at hSw); have q0 := l0 wS hSw; have q1 := l1 wS hSw; have q2 := l2 wS hSw; have q3 := l3 wS hSw; have q4 := l4 wS hSw; go_simp <;> with_reducible rfl)
      simp only [Act.put, List.setIfInBounds_toArray, List.set_cons_zero, List.set_cons_succ]
      refine wpAnyH_take (i := 4) (oi := { dst := some 20, op := Op.move (Operand.tmp 1), type := 23, pos := "law.go:28", after := #[], guard := none }) (v := ?vq3) rfl (by as_aux_lemma => kernel_rfl) (by as_aux_lemma => kernel_rfl) (by as_aux_lemma => kernel_rfl) (fun _ _ _ h => h) (Or.inl ⟨by rfl, ?yq3⟩) (by assumption) ?rq3
      case yq3 => (intro wS hSw; (try dsimp only at hSw); have q0 := l0 wS hSw; have q1 := l1 wS hSw; have q2 := l2 wS hSw; have q3 := l3 wS hSw; have q4 := l4 wS hSw; go_simp <;> with_reducible rfl)
      simp only [Act.put, List.setIfInBounds_toArray, List.set_cons_zero, List.set_cons_succ]
      refine wpAnyH_take (i := 5) (oi := { dst := some 21, op := Op.fieldAddr 29 (Operand.tmp 5) 1, type := 0, pos := "law.go:28", after := #[], guard := none }) (v := ?vq4) rfl (by as_aux_lemma => kernel_rfl) (by as_aux_lemma => kernel_rfl) (by as_aux_lemma => kernel_rfl) (fun _ _ _ h => h) (Or.inl ⟨by rfl, ?yq4⟩) (by assumption) ?rq4
      case yq4 => (intro wS hSw; (try dsimp only at hSw); have q0 := l0 wS hSw; have q1 := l1 wS hSw; have q2 := l2 wS hSw; have q3 := l3 wS hSw; have q4 := l4 wS hSw; go_simp <;> with_reducible rfl)
      simp only [Act.put, List.setIfInBounds_toArray, List.set_cons_zero, List.set_cons_succ]
      refine wpAnyH_take (i := 6) (oi := { dst := some 22, op := Op.load 27 (Operand.tmp 21), type := 27, pos := "law.go:28", after := #[{ on := 5, ground := Ground.data }], guard := none }) (v := ?vq5) rfl (by as_aux_lemma => kernel_rfl) (by as_aux_lemma => kernel_rfl) (by as_aux_lemma => kernel_rfl) (fun _ _ _ h => h) (Or.inl ⟨by rfl, ?yq5⟩) (by assumption) ?rq5
      case yq5 => (intro wS hSw; (try dsimp only at hSw); have q0 := l0 wS hSw; have q1 := l1 wS hSw; have q2 := l2 wS hSw; have q3 := l3 wS hSw; have q4 := l4 wS hSw; go_simp <;> with_reducible rfl)
      simp only [Act.put, List.setIfInBounds_toArray, List.set_cons_zero, List.set_cons_succ]
      refine wpAnyH_ready (rs := [3]) (by as_aux_lemma => kernel_rfl) (by simp) ?_
      refine AllReadyH.cons (o := { dst := some 19, op := Op.call { callee := Callee.value (Operand.func 9), args := #[Operand.tmp 16, Operand.tmp 18], argTypes := #[23, 27] }, type := 22, pos := "law.go:28", after := #[{ on := 0, ground := Ground.data }, { on := 2, ground := Ground.data }], guard := none }) rfl (fun K hK => ?_) (by exact AllReadyH.nil)
      rw [if_pos (by rfl)]
      go_simp
      refine (HOF.out _ hB0).mono ?_
      rintro e u3 ⟨g3, rfl, hg3, hb3, hu3⟩
      have hS3 : Below V.heap.size V u3 := rstep hu3 hB0
      refine hK.out _ _ (by (try dsimp only); (first | exact hS51 | exact hS47 | exact hS45 | exact hS41 | exact hS40 | exact hS38 | exact hS34 | exact hS33 | exact hS29 | exact hS20 | exact hS14 | exact hS11 | exact hS8 | exact hS7 | exact hS3)) (fun hHeld => ?_)
      clear hK K
      simp only [List.setIfInBounds_toArray, List.set_cons_zero, List.set_cons_succ]
      refine wpAnyH_ready (rs := [7]) (by as_aux_lemma => kernel_rfl) (by simp) ?_
      refine AllReadyH.cons (o := { dst := some 23, op := Op.call { callee := Callee.value (Operand.func 10), args := #[Operand.tmp 20, Operand.tmp 22], argTypes := #[23, 27] }, type := 22, pos := "law.go:28", after := #[{ on := 4, ground := Ground.data }, { on := 6, ground := Ground.data }, { on := 3, ground := Ground.chain }], guard := none }) rfl (fun K hK => ?_) (by exact AllReadyH.nil)
      rw [if_pos (by rfl)]
      go_simp
      refine (HRO.out _ hS3).mono ?_
      rintro e u7 ⟨v7, rfl, hv7, hu7⟩
      obtain ⟨y7, c7, rfl⟩ := hv7.is
      simp only [List.length_map] at hv7
      have hS7 := rstep hu7 hS3
      refine hK.out _ _ (by (try dsimp only); (first | exact hS51 | exact hS47 | exact hS45 | exact hS41 | exact hS40 | exact hS38 | exact hS34 | exact hS33 | exact hS29 | exact hS20 | exact hS14 | exact hS11 | exact hS8 | exact hS7 | exact hS3)) (fun hHeld => ?_)
      clear hK K
      simp only [List.setIfInBounds_toArray, List.set_cons_zero, List.set_cons_succ]
      refine wpAnyH_ready (rs := [8]) (by as_aux_lemma => kernel_rfl) (by simp) ?_
      refine AllReadyH.cons (o := { dst := some 24, op := Op.call { callee := Callee.value (Operand.func 8), args := #[Operand.tmp 19, Operand.tmp 23], argTypes := #[22, 22] }, type := 4, pos := "law.go:28", after := #[{ on := 3, ground := Ground.data }, { on := 7, ground := Ground.data }, { on := 7, ground := Ground.chain }], guard := none }) rfl (fun K hK => ?_) (by exact AllReadyH.nil)
      rw [if_pos (by rfl)]
      go_simp
      refine (equal_same (List.length_map ..) (by have := HLB.out; omega) HOB.out (hb3.keep hu7) hv7).mono ?_
      rintro e u8 ⟨rfl, hu8⟩
      have hS8 := rstep hu8 hS7
      clear hb3 hg3 hu3 hv7 hu7 hu8
      refine hK.out _ _ (by (try dsimp only); (first | exact hS51 | exact hS47 | exact hS45 | exact hS41 | exact hS40 | exact hS38 | exact hS34 | exact hS33 | exact hS29 | exact hS20 | exact hS14 | exact hS11 | exact hS8 | exact hS7 | exact hS3)) (fun hHeld => ?_)
      clear hK K
      simp only [List.setIfInBounds_toArray, List.set_cons_zero, List.set_cons_succ]
      refine wpAnyH_take (i := 9) (oi := { dst := some 25, op := Op.move (Operand.tmp 24), type := 4, pos := "law.go:28", after := #[{ on := 8, ground := Ground.data }, { on := 8, ground := Ground.chain }], guard := none }) (v := ?vq9) rfl (by as_aux_lemma => kernel_rfl) (by as_aux_lemma => kernel_rfl) (by as_aux_lemma => kernel_rfl) (fun _ _ _ h => h) (Or.inl ⟨by rfl, ?yq9⟩) (by assumption) ?rq9
      case yq9 => (intro wS hSw; (try dsimp only at hSw); have q0 := l0 wS hSw; have q1 := l1 wS hSw; have q2 := l2 wS hSw; have q3 := l3 wS hSw; have q4 := l4 wS hSw; go_simp <;> with_reducible rfl)
      simp only [Act.put, List.setIfInBounds_toArray, List.set_cons_zero, List.set_cons_succ]
      refine wpAnyH_take (i := 10) (oi := { dst := some 26, op := Op.move (Operand.tmp 0), type := 22, pos := "law.go:28", after := #[{ on := 9, ground := Ground.guard }], guard := some (9, true) }) (v := ?vq10) rfl (by as_aux_lemma => kernel_rfl) (by as_aux_lemma => kernel_rfl) (by as_aux_lemma => kernel_rfl) (fun _ _ _ h => h) (Or.inl ⟨by rfl, ?yq10⟩) (by assumption) ?rq10
      case yq10 => (intro wS hSw; (try dsimp only at hSw); have q0 := l0 wS hSw; have q1 := l1 wS hSw; have q2 := l2 wS hSw; have q3 := l3 wS hSw; have q4 := l4 wS hSw; go_simp <;> with_reducible rfl)
      simp only [Act.put, List.setIfInBounds_toArray, List.set_cons_zero, List.set_cons_succ]
      refine wpAnyH_take (i := 13) (oi := { dst := some 29, op := Op.move (Operand.tmp 0), type := 22, pos := "law.go:28", after := #[{ on := 9, ground := Ground.guard }], guard := some (9, true) }) (v := ?vq11) rfl (by as_aux_lemma => kernel_rfl) (by as_aux_lemma => kernel_rfl) (by as_aux_lemma => kernel_rfl) (fun _ _ _ h => h) (Or.inl ⟨by rfl, ?yq11⟩) (by assumption) ?rq11
      case yq11 => (intro wS hSw; (try dsimp only at hSw); have q0 := l0 wS hSw; have q1 := l1 wS hSw; have q2 := l2 wS hSw; have q3 := l3 wS hSw; have q4 := l4 wS hSw; go_simp <;> with_reducible rfl)
      simp only [Act.put, List.setIfInBounds_toArray, List.set_cons_zero, List.set_cons_succ]
      refine wpAnyH_ready (rs := [11]) (by as_aux_lemma => kernel_rfl) (by simp) ?_
      refine AllReadyH.cons (o := { dst := some 27, op := Op.call { callee := Callee.value (Operand.func 11), args := #[Operand.tmp 26], argTypes := #[22] }, type := 23, pos := "law.go:28", after := #[{ on := 10, ground := Ground.data }, { on := 9, ground := Ground.chain }, { on := 9, ground := Ground.guard }], guard := some (9, true) }) rfl (fun K hK => ?_) (by exact AllReadyH.nil)
      rw [if_pos (by rfl)]
      go_simp
      refine (tbytes_any B _ l (by have := HLB.out; omega) _ (HCS.out _ hS8)).mono ?_
      rintro e u11 ⟨g11, rfl, hg11, hb11, hu11⟩
      have hS11 := rstep hu11 hS8
      have k12 := conv_row (List.length_map ..) (by have := HLB.out; omega) HLF.out hb11
      have k12a := k12 u11 (Below.refl _ _)
      refine hK.out _ _ (by (try dsimp only); (first | exact hS51 | exact hS47 | exact hS45 | exact hS41 | exact hS40 | exact hS38 | exact hS34 | exact hS33 | exact hS29 | exact hS20 | exact hS14 | exact hS11 | exact hS8 | exact hS7 | exact hS3)) (fun hHeld => ?_)
      clear hK K
      simp only [List.setIfInBounds_toArray, List.set_cons_zero, List.set_cons_succ]
      refine wpAnyH_ready (rs := [12, 14]) (by as_aux_lemma => kernel_rfl) (by simp) ?_
      refine AllReadyH.cons (o := { dst := some 28, op := Op.convert 23 9 (Operand.tmp 27), type := 9, pos := "law.go:28", after := #[{ on := 11, ground := Ground.data }, { on := 9, ground := Ground.guard }], guard := some (9, true) }) rfl (fun K hK => ?_) ?_
      · rw [if_pos (by rfl)]
        go_simp
        refine hK.out _ _ (by (try dsimp only); (first | exact hS51 | exact hS47 | exact hS45 | exact hS41 | exact hS40 | exact hS38 | exact hS34 | exact hS33 | exact hS29 | exact hS20 | exact hS14 | exact hS11 | exact hS8 | exact hS7 | exact hS3)) (fun hHeld => ?_)
        clear hK K
        simp only [List.setIfInBounds_toArray, List.set_cons_zero, List.set_cons_succ]
        refine wpAnyH_ready (rs := [14]) (by as_aux_lemma => kernel_rfl) (by simp) ?_
        refine AllReadyH.cons (o := { dst := some 30, op := Op.call { callee := Callee.value (Operand.func 12), args := #[Operand.tmp 29], argTypes := #[22] }, type := 23, pos := "law.go:28", after := #[{ on := 13, ground := Ground.data }, { on := 11, ground := Ground.chain }, { on := 9, ground := Ground.guard }], guard := some (9, true) }) rfl (fun K hK => ?_) (by exact AllReadyH.nil)
        rw [if_pos (by rfl)]
        go_simp
        refine (rtbytes_any B _ l (by have := HLB.out; omega) _ (HCS.out _ hS11)).mono ?_
        rintro e u14 ⟨v14, rfl, hv14, hu14⟩
        have k15 := conv_byteso _ _ _ u14 hv14.bt.bto (by rw [List.length_map]; have := HLB.out; omega)
        obtain ⟨y14, c14, rfl⟩ := hv14.is
        simp only [List.length_map] at k15 hv14
        have hS14 := rstep hu14 hS11
        have k12b := k12 u14 hu14
        refine hK.out _ _ (by (try dsimp only); (first | exact hS51 | exact hS47 | exact hS45 | exact hS41 | exact hS40 | exact hS38 | exact hS34 | exact hS33 | exact hS29 | exact hS20 | exact hS14 | exact hS11 | exact hS8 | exact hS7 | exact hS3)) (fun hHeld => ?_)
        clear hK K
        simp only [List.setIfInBounds_toArray, List.set_cons_zero, List.set_cons_succ]
        refine wpAnyH_ready (rs := [15]) (by as_aux_lemma => kernel_rfl) (by simp) ?_
        refine AllReadyH.cons (o := { dst := some 31, op := Op.convert 23 9 (Operand.tmp 30), type := 9, pos := "law.go:28", after := #[{ on := 14, ground := Ground.data }, { on := 9, ground := Ground.guard }], guard := some (9, true) }) rfl (fun K hK => ?_) (by exact AllReadyH.nil)
        rw [if_pos (by rfl)]
        go_simp
        refine hK.out _ _ (by (try dsimp only); (first | exact hS51 | exact hS47 | exact hS45 | exact hS41 | exact hS40 | exact hS38 | exact hS34 | exact hS33 | exact hS29 | exact hS20 | exact hS14 | exact hS11 | exact hS8 | exact hS7 | exact hS3)) (fun hHeld => ?_)
        clear hK K
        simp only [List.setIfInBounds_toArray, List.set_cons_zero, List.set_cons_succ]
        refine wpAnyH_take (i := 16) (oi := { dst := some 32, op := Op.binOp BinOp.eql 9 (Operand.tmp 28) (Operand.tmp 31) 9, type := 4, pos := "law.go:28", after := #[{ on := 12, ground := Ground.data }, { on := 15, ground := Ground.data }, { on := 9, ground := Ground.guard }], guard := some (9, true) }) (v := ?vq16) rfl (by as_aux_lemma => kernel_rfl) (by as_aux_lemma => kernel_rfl) (by as_aux_lemma => kernel_rfl) (fun _ _ _ h => h) (Or.inl ⟨by rfl, ?yq16⟩) (by assumption) ?rq16
        case yq16 => (intro wS hSw; (try dsimp only at hSw); have q0 := l0 wS hSw; have q1 := l1 wS hSw; have q2 := l2 wS hSw; have q3 := l3 wS hSw; have q4 := l4 wS hSw; go_simp <;> with_reducible rfl)
        simp only [Act.put, List.setIfInBounds_toArray, List.set_cons_zero, List.set_cons_succ]
        refine wpAnyH_take (i := 17) (oi := { dst := some 33, op := Op.pick (Operand.tmp 25) (Operand.tmp 32) (Operand.const (Value.bool false)), type := 4, pos := "law.go:28", after := #[{ on := 9, ground := Ground.data }, { on := 16, ground := Ground.data }], guard := none }) (v := ?vq17) rfl (by as_aux_lemma => kernel_rfl) (by as_aux_lemma => kernel_rfl) (by as_aux_lemma => kernel_rfl) (fun _ _ _ h => h) (Or.inl ⟨by rfl, ?yq17⟩) (by assumption) ?rq17
        case yq17 => (intro wS hSw; (try dsimp only at hSw); have q0 := l0 wS hSw; have q1 := l1 wS hSw; have q2 := l2 wS hSw; have q3 := l3 wS hSw; have q4 := l4 wS hSw; go_simp <;> with_reducible rfl)
        simp only [Act.put, List.setIfInBounds_toArray, List.set_cons_zero, List.set_cons_succ]
        refine wpAnyH_take (i := 18) (oi := { dst := some 34, op := Op.move (Operand.tmp 33), type := 4, pos := "law.go:28", after := #[{ on := 17, ground := Ground.data }, { on := 14, ground := Ground.chain }], guard := none }) (v := ?vq18) rfl (by as_aux_lemma => kernel_rfl) (by as_aux_lemma => kernel_rfl) (by as_aux_lemma => kernel_rfl) (fun _ _ _ h => h) (Or.inl ⟨by rfl, ?yq18⟩) (by assumption) ?rq18
        case yq18 => (intro wS hSw; (try dsimp only at hSw); have q0 := l0 wS hSw; have q1 := l1 wS hSw; have q2 := l2 wS hSw; have q3 := l3 wS hSw; have q4 := l4 wS hSw; go_simp <;> with_reducible rfl)
        simp only [Act.put, List.setIfInBounds_toArray, List.set_cons_zero, List.set_cons_succ]
        refine wpAnyH_take (i := 19) (oi := { dst := some 35, op := Op.move (Operand.tmp 0), type := 22, pos := "law.go:28", after := #[{ on := 18, ground := Ground.guard }], guard := some (18, true) }) (v := ?vq19) rfl (by as_aux_lemma => kernel_rfl) (by as_aux_lemma => kernel_rfl) (by as_aux_lemma => kernel_rfl) (fun _ _ _ h => h) (Or.inl ⟨by rfl, ?yq19⟩) (by assumption) ?rq19
        case yq19 => (intro wS hSw; (try dsimp only at hSw); have q0 := l0 wS hSw; have q1 := l1 wS hSw; have q2 := l2 wS hSw; have q3 := l3 wS hSw; have q4 := l4 wS hSw; go_simp <;> with_reducible rfl)
        simp only [Act.put, List.setIfInBounds_toArray, List.set_cons_zero, List.set_cons_succ]
        refine wpAnyH_take (i := 21) (oi := { dst := some 37, op := Op.move (Operand.tmp 0), type := 22, pos := "law.go:28", after := #[{ on := 18, ground := Ground.guard }], guard := some (18, true) }) (v := ?vq20) rfl (by as_aux_lemma => kernel_rfl) (by as_aux_lemma => kernel_rfl) (by as_aux_lemma => kernel_rfl) (fun _ _ _ h => h) (Or.inl ⟨by rfl, ?yq20⟩) (by assumption) ?rq20
        case yq20 => (intro wS hSw; (try dsimp only at hSw); have q0 := l0 wS hSw; have q1 := l1 wS hSw; have q2 := l2 wS hSw; have q3 := l3 wS hSw; have q4 := l4 wS hSw; go_simp <;> with_reducible rfl)
        simp only [Act.put, List.setIfInBounds_toArray, List.set_cons_zero, List.set_cons_succ]
        refine wpAnyH_ready (rs := [20]) (by as_aux_lemma => kernel_rfl) (by simp) ?_
        refine AllReadyH.cons (o := { dst := some 36, op := Op.call { callee := Callee.value (Operand.func 13), args := #[Operand.tmp 35], argTypes := #[22] }, type := 27, pos := "law.go:28", after := #[{ on := 19, ground := Ground.data }, { on := 18, ground := Ground.chain }, { on := 18, ground := Ground.guard }], guard := some (18, true) }) rfl (fun K hK => ?_) (by exact AllReadyH.nil)
        rw [if_pos (by rfl)]
        go_simp
        refine (HT1.out _ hS14).mono ?_
        rintro e u20 ⟨rfl, hu20⟩
        have hS20 := rstep hu20 hS14
        clear k12 k12a k12b k15
        refine hK.out _ _ (by (try dsimp only); (first | exact hS51 | exact hS47 | exact hS45 | exact hS41 | exact hS40 | exact hS38 | exact hS34 | exact hS33 | exact hS29 | exact hS20 | exact hS14 | exact hS11 | exact hS8 | exact hS7 | exact hS3)) (fun hHeld => ?_)
        clear hK K
        simp only [List.setIfInBounds_toArray, List.set_cons_zero, List.set_cons_succ]
        refine wpAnyH_ready (rs := [22]) (by as_aux_lemma => kernel_rfl) (by simp) ?_
        refine AllReadyH.cons (o := { dst := some 38, op := Op.call { callee := Callee.value (Operand.func 14), args := #[Operand.tmp 37], argTypes := #[22] }, type := 27, pos := "law.go:28", after := #[{ on := 21, ground := Ground.data }, { on := 20, ground := Ground.chain }, { on := 18, ground := Ground.guard }], guard := some (18, true) }) rfl (fun K hK => ?_) (by exact AllReadyH.nil)
        rw [if_pos (by rfl)]
        go_simp
        refine (HT2.out _ hS20).mono ?_
        rintro e u22 ⟨rfl, rfl⟩
        refine hK.out _ _ (by (try dsimp only); (first | exact hS51 | exact hS47 | exact hS45 | exact hS41 | exact hS40 | exact hS38 | exact hS34 | exact hS33 | exact hS29 | exact hS20 | exact hS14 | exact hS11 | exact hS8 | exact hS7 | exact hS3)) (fun hHeld => ?_)
        clear hK K
        simp only [List.setIfInBounds_toArray, List.set_cons_zero, List.set_cons_succ]
        refine wpAnyH_take (i := 23) (oi := { dst := some 39, op := Op.binOp BinOp.eql 27 (Operand.tmp 36) (Operand.tmp 38) 27, type := 4, pos := "law.go:28", after := #[{ on := 20, ground := Ground.data }, { on := 22, ground := Ground.data }, { on := 18, ground := Ground.guard }], guard := some (18, true) }) (v := ?vq23) rfl (by as_aux_lemma => kernel_rfl) (by as_aux_lemma => kernel_rfl) (by as_aux_lemma => kernel_rfl) (fun _ _ _ h => h) (Or.inl ⟨by rfl, ?yq23⟩) (by assumption) ?rq23
        case yq23 => (intro wS hSw; (try dsimp only at hSw); have q0 := l0 wS hSw; have q1 := l1 wS hSw; have q2 := l2 wS hSw; have q3 := l3 wS hSw; have q4 := l4 wS hSw; go_simp <;> with_reducible rfl)
        simp only [Act.put, List.setIfInBounds_toArray, List.set_cons_zero, List.set_cons_succ]
        refine wpAnyH_take (i := 24) (oi := { dst := some 40, op := Op.pick (Operand.tmp 34) (Operand.tmp 39) (Operand.const (Value.bool false)), type := 4, pos := "law.go:28", after := #[{ on := 18, ground := Ground.data }, { on := 23, ground := Ground.data }], guard := none }) (v := ?vq24) rfl (by as_aux_lemma => kernel_rfl) (by as_aux_lemma => kernel_rfl) (by as_aux_lemma => kernel_rfl) (fun _ _ _ h => h) (Or.inl ⟨by rfl, ?yq24⟩) (by assumption) ?rq24
        case yq24 => (intro wS hSw; (try dsimp only at hSw); have q0 := l0 wS hSw; have q1 := l1 wS hSw; have q2 := l2 wS hSw; have q3 := l3 wS hSw; have q4 := l4 wS hSw; go_simp <;> with_reducible rfl)
        simp only [Act.put, List.setIfInBounds_toArray, List.set_cons_zero, List.set_cons_succ]
        refine wpAnyH_take (i := 25) (oi := { dst := some 41, op := Op.move (Operand.tmp 40), type := 4, pos := "law.go:28", after := #[{ on := 24, ground := Ground.data }, { on := 22, ground := Ground.chain }], guard := none }) (v := ?vq25) rfl (by as_aux_lemma => kernel_rfl) (by as_aux_lemma => kernel_rfl) (by as_aux_lemma => kernel_rfl) (fun _ _ _ h => h) (Or.inl ⟨by rfl, ?yq25⟩) (by assumption) ?rq25
        case yq25 => (intro wS hSw; (try dsimp only at hSw); have q0 := l0 wS hSw; have q1 := l1 wS hSw; have q2 := l2 wS hSw; have q3 := l3 wS hSw; have q4 := l4 wS hSw; go_simp <;> with_reducible rfl)
        simp only [Act.put, List.setIfInBounds_toArray, List.set_cons_zero, List.set_cons_succ]
        refine wpAnyH_take (i := 26) (oi := { dst := some 42, op := Op.fieldAddr 29 (Operand.tmp 5) 1, type := 0, pos := "law.go:28", after := #[{ on := 25, ground := Ground.guard }], guard := some (25, true) }) (v := ?vq26) rfl (by as_aux_lemma => kernel_rfl) (by as_aux_lemma => kernel_rfl) (by as_aux_lemma => kernel_rfl) (fun _ _ _ h => h) (Or.inl ⟨by rfl, ?yq26⟩) (by assumption) ?rq26
        case yq26 => (intro wS hSw; (try dsimp only at hSw); have q0 := l0 wS hSw; have q1 := l1 wS hSw; have q2 := l2 wS hSw; have q3 := l3 wS hSw; have q4 := l4 wS hSw; go_simp <;> with_reducible rfl)
        simp only [Act.put, List.setIfInBounds_toArray, List.set_cons_zero, List.set_cons_succ]
        refine wpAnyH_take (i := 27) (oi := { dst := some 43, op := Op.load 27 (Operand.tmp 42), type := 27, pos := "law.go:28", after := #[{ on := 26, ground := Ground.data }, { on := 25, ground := Ground.guard }], guard := some (25, true) }) (v := ?vq27) rfl (by as_aux_lemma => kernel_rfl) (by as_aux_lemma => kernel_rfl) (by as_aux_lemma => kernel_rfl) (fun _ _ _ h => h) (Or.inl ⟨by rfl, ?yq27⟩) (by assumption) ?rq27
        case yq27 => (intro wS hSw; (try dsimp only at hSw); have q0 := l0 wS hSw; have q1 := l1 wS hSw; have q2 := l2 wS hSw; have q3 := l3 wS hSw; have q4 := l4 wS hSw; go_simp <;> with_reducible rfl)
        simp only [Act.put, List.setIfInBounds_toArray, List.set_cons_zero, List.set_cons_succ]
        refine wpAnyH_take (i := 28) (oi := { dst := some 44, op := Op.move (Operand.tmp 0), type := 22, pos := "law.go:28", after := #[{ on := 25, ground := Ground.guard }], guard := some (25, true) }) (v := ?vq28) rfl (by as_aux_lemma => kernel_rfl) (by as_aux_lemma => kernel_rfl) (by as_aux_lemma => kernel_rfl) (fun _ _ _ h => h) (Or.inl ⟨by rfl, ?yq28⟩) (by assumption) ?rq28
        case yq28 => (intro wS hSw; (try dsimp only at hSw); have q0 := l0 wS hSw; have q1 := l1 wS hSw; have q2 := l2 wS hSw; have q3 := l3 wS hSw; have q4 := l4 wS hSw; go_simp <;> with_reducible rfl)
        simp only [Act.put, List.setIfInBounds_toArray, List.set_cons_zero, List.set_cons_succ]
        refine wpAnyH_take (i := 30) (oi := { dst := some 46, op := Op.fieldAddr 29 (Operand.tmp 5) 1, type := 0, pos := "law.go:28", after := #[{ on := 25, ground := Ground.guard }], guard := some (25, true) }) (v := ?vq29) rfl (by as_aux_lemma => kernel_rfl) (by as_aux_lemma => kernel_rfl) (by as_aux_lemma => kernel_rfl) (fun _ _ _ h => h) (Or.inl ⟨by rfl, ?yq29⟩) (by assumption) ?rq29
        case yq29 => (intro wS hSw; (try dsimp only at hSw); have q0 := l0 wS hSw; have q1 := l1 wS hSw; have q2 := l2 wS hSw; have q3 := l3 wS hSw; have q4 := l4 wS hSw; go_simp <;> with_reducible rfl)
        simp only [Act.put, List.setIfInBounds_toArray, List.set_cons_zero, List.set_cons_succ]
        refine wpAnyH_take (i := 31) (oi := { dst := some 47, op := Op.load 27 (Operand.tmp 46), type := 27, pos := "law.go:28", after := #[{ on := 30, ground := Ground.data }, { on := 25, ground := Ground.guard }], guard := some (25, true) }) (v := ?vq30) rfl (by as_aux_lemma => kernel_rfl) (by as_aux_lemma => kernel_rfl) (by as_aux_lemma => kernel_rfl) (fun _ _ _ h => h) (Or.inl ⟨by rfl, ?yq30⟩) (by assumption) ?rq30
        case yq30 => (intro wS hSw; (try dsimp only at hSw); have q0 := l0 wS hSw; have q1 := l1 wS hSw; have q2 := l2 wS hSw; have q3 := l3 wS hSw; have q4 := l4 wS hSw; go_simp <;> with_reducible rfl)
        simp only [Act.put, List.setIfInBounds_toArray, List.set_cons_zero, List.set_cons_succ]
        refine wpAnyH_take (i := 32) (oi := { dst := some 48, op := Op.move (Operand.tmp 0), type := 22, pos := "law.go:28", after := #[{ on := 25, ground := Ground.guard }], guard := some (25, true) }) (v := ?vq31) rfl (by as_aux_lemma => kernel_rfl) (by as_aux_lemma => kernel_rfl) (by as_aux_lemma => kernel_rfl) (fun _ _ _ h => h) (Or.inl ⟨by rfl, ?yq31⟩) (by assumption) ?rq31
        case yq31 => (intro wS hSw; (try dsimp only at hSw); have q0 := l0 wS hSw; have q1 := l1 wS hSw; have q2 := l2 wS hSw; have q3 := l3 wS hSw; have q4 := l4 wS hSw; go_simp <;> with_reducible rfl)
        simp only [Act.put, List.setIfInBounds_toArray, List.set_cons_zero, List.set_cons_succ]
        refine wpAnyH_ready (rs := [29]) (by as_aux_lemma => kernel_rfl) (by simp) ?_
        refine AllReadyH.cons (o := { dst := some 45, op := Op.call { callee := Callee.value (Operand.func 15), args := #[Operand.tmp 43, Operand.tmp 44], argTypes := #[27, 22] }, type := 22, pos := "law.go:28", after := #[{ on := 27, ground := Ground.data }, { on := 28, ground := Ground.data }, { on := 25, ground := Ground.chain }, { on := 25, ground := Ground.guard }], guard := some (25, true) }) rfl (fun K hK => ?_) (by exact AllReadyH.nil)
        rw [if_pos (by rfl)]
        go_simp
        refine (tjoin_any B a HA.out _ l (by have := HLB.out; omega) _ (HCS.out _ hS20)).mono ?_
        rintro e u29 ⟨g29, rfl, hg29, hb29, hu29⟩
        have hS29 := rstep hu29 hS20
        refine hK.out _ _ (by (try dsimp only); (first | exact hS51 | exact hS47 | exact hS45 | exact hS41 | exact hS40 | exact hS38 | exact hS34 | exact hS33 | exact hS29 | exact hS20 | exact hS14 | exact hS11 | exact hS8 | exact hS7 | exact hS3)) (fun hHeld => ?_)
        clear hK K
        simp only [List.setIfInBounds_toArray, List.set_cons_zero, List.set_cons_succ]
        refine wpAnyH_ready (rs := [33]) (by as_aux_lemma => kernel_rfl) (by simp) ?_
        refine AllReadyH.cons (o := { dst := some 49, op := Op.call { callee := Callee.value (Operand.func 16), args := #[Operand.tmp 47, Operand.tmp 48], argTypes := #[27, 22] }, type := 22, pos := "law.go:28", after := #[{ on := 31, ground := Ground.data }, { on := 32, ground := Ground.data }, { on := 29, ground := Ground.chain }, { on := 25, ground := Ground.guard }], guard := some (25, true) }) rfl (fun K hK => ?_) (by exact AllReadyH.nil)
        rw [if_pos (by rfl)]
        go_simp
        refine (rtjoin_any B a HA.out _ l (by have := HLB.out; omega) _ (HCS.out _ hS29)).mono ?_
        rintro e u33 ⟨v33, rfl, hv33, hu33⟩
        obtain ⟨y33, c33, rfl⟩ := hv33.is
        simp only [List.length_map] at hv33
        have hS33 := rstep hu33 hS29
        refine hK.out _ _ (by (try dsimp only); (first | exact hS51 | exact hS47 | exact hS45 | exact hS41 | exact hS40 | exact hS38 | exact hS34 | exact hS33 | exact hS29 | exact hS20 | exact hS14 | exact hS11 | exact hS8 | exact hS7 | exact hS3)) (fun hHeld => ?_)
        clear hK K
        simp only [List.setIfInBounds_toArray, List.set_cons_zero, List.set_cons_succ]
        refine wpAnyH_ready (rs := [34]) (by as_aux_lemma => kernel_rfl) (by simp) ?_
        refine AllReadyH.cons (o := { dst := some 50, op := Op.call { callee := Callee.value (Operand.func 8), args := #[Operand.tmp 45, Operand.tmp 49], argTypes := #[22, 22] }, type := 4, pos := "law.go:28", after := #[{ on := 29, ground := Ground.data }, { on := 33, ground := Ground.data }, { on := 33, ground := Ground.chain }, { on := 25, ground := Ground.guard }], guard := some (25, true) }) rfl (fun K hK => ?_) (by exact AllReadyH.nil)
        rw [if_pos (by rfl)]
        go_simp
        refine (equal_same (List.length_map ..) (by have := HLB.out; omega) HOJ.out (hb29.keep hu33) (by have h9 := hv33; rw [HJJ.out] at h9; exact h9)).mono ?_
        rintro e u34 ⟨rfl, hu34⟩
        have hS34 := rstep hu34 hS33
        clear hb29 hg29 hu29 hv33 hu33 hu34
        refine hK.out _ _ (by (try dsimp only); (first | exact hS51 | exact hS47 | exact hS45 | exact hS41 | exact hS40 | exact hS38 | exact hS34 | exact hS33 | exact hS29 | exact hS20 | exact hS14 | exact hS11 | exact hS8 | exact hS7 | exact hS3)) (fun hHeld => ?_)
        clear hK K
        simp only [List.setIfInBounds_toArray, List.set_cons_zero, List.set_cons_succ]
        refine wpAnyH_take (i := 35) (oi := { dst := some 51, op := Op.pick (Operand.tmp 41) (Operand.tmp 50) (Operand.const (Value.bool false)), type := 4, pos := "law.go:28", after := #[{ on := 25, ground := Ground.data }, { on := 34, ground := Ground.data }], guard := none }) (v := ?vq35) rfl (by as_aux_lemma => kernel_rfl) (by as_aux_lemma => kernel_rfl) (by as_aux_lemma => kernel_rfl) (fun _ _ _ h => h) (Or.inl ⟨by rfl, ?yq35⟩) (by assumption) ?rq35
        case yq35 => (intro wS hSw; (try dsimp only at hSw); have q0 := l0 wS hSw; have q1 := l1 wS hSw; have q2 := l2 wS hSw; have q3 := l3 wS hSw; have q4 := l4 wS hSw; go_simp <;> with_reducible rfl)
        simp only [Act.put, List.setIfInBounds_toArray, List.set_cons_zero, List.set_cons_succ]
        refine wpAnyH_take (i := 36) (oi := { dst := some 52, op := Op.move (Operand.tmp 51), type := 4, pos := "law.go:28", after := #[{ on := 35, ground := Ground.data }, { on := 34, ground := Ground.chain }], guard := none }) (v := ?vq36) rfl (by as_aux_lemma => kernel_rfl) (by as_aux_lemma => kernel_rfl) (by as_aux_lemma => kernel_rfl) (fun _ _ _ h => h) (Or.inl ⟨by rfl, ?yq36⟩) (by assumption) ?rq36
        case yq36 => (intro wS hSw; (try dsimp only at hSw); have q0 := l0 wS hSw; have q1 := l1 wS hSw; have q2 := l2 wS hSw; have q3 := l3 wS hSw; have q4 := l4 wS hSw; go_simp <;> with_reducible rfl)
        simp only [Act.put, List.setIfInBounds_toArray, List.set_cons_zero, List.set_cons_succ]
        refine wpAnyH_take (i := 37) (oi := { dst := some 53, op := Op.load 29 (Operand.tmp 5), type := 29, pos := "law.go:28", after := #[{ on := 36, ground := Ground.guard }], guard := some (36, true) }) (v := ?vq37) rfl (by as_aux_lemma => kernel_rfl) (by as_aux_lemma => kernel_rfl) (by as_aux_lemma => kernel_rfl) (fun _ _ _ h => h) (Or.inl ⟨by rfl, ?yq37⟩) (by assumption) ?rq37
        case yq37 => (intro wS hSw; (try dsimp only at hSw); have q0 := l0 wS hSw; have q1 := l1 wS hSw; have q2 := l2 wS hSw; have q3 := l3 wS hSw; have q4 := l4 wS hSw; go_simp <;> with_reducible rfl)
        simp only [Act.put, List.setIfInBounds_toArray, List.set_cons_zero, List.set_cons_succ]
        refine wpAnyH_take (i := 39) (oi := { dst := some 55, op := Op.load 29 (Operand.tmp 5), type := 29, pos := "law.go:28", after := #[{ on := 36, ground := Ground.guard }], guard := some (36, true) }) (v := ?vq38) rfl (by as_aux_lemma => kernel_rfl) (by as_aux_lemma => kernel_rfl) (by as_aux_lemma => kernel_rfl) (fun _ _ _ h => h) (Or.inl ⟨by rfl, ?yq38⟩) (by assumption) ?rq38
        case yq38 => (intro wS hSw; (try dsimp only at hSw); have q0 := l0 wS hSw; have q1 := l1 wS hSw; have q2 := l2 wS hSw; have q3 := l3 wS hSw; have q4 := l4 wS hSw; go_simp <;> with_reducible rfl)
        simp only [Act.put, List.setIfInBounds_toArray, List.set_cons_zero, List.set_cons_succ]
        refine wpAnyH_ready (rs := [38]) (by as_aux_lemma => kernel_rfl) (by simp) ?_
        refine AllReadyH.cons (o := { dst := some 54, op := Op.call { callee := Callee.value (Operand.func 17), args := #[Operand.tmp 53], argTypes := #[29] }, type := 22, pos := "law.go:28", after := #[{ on := 37, ground := Ground.data }, { on := 36, ground := Ground.chain }, { on := 36, ground := Ground.guard }], guard := some (36, true) }) rfl (fun K hK => ?_) (by exact AllReadyH.nil)
        rw [if_pos (by rfl)]
        go_simp
        refine (tcells_any n a HA.out _).mono ?_
        rintro e u38 ⟨g38, rfl, hg38, hb38, hu38⟩
        have hS38 := rstep hu38 hS34
        refine hK.out _ _ (by (try dsimp only); (first | exact hS51 | exact hS47 | exact hS45 | exact hS41 | exact hS40 | exact hS38 | exact hS34 | exact hS33 | exact hS29 | exact hS20 | exact hS14 | exact hS11 | exact hS8 | exact hS7 | exact hS3)) (fun hHeld => ?_)
        clear hK K
        simp only [List.setIfInBounds_toArray, List.set_cons_zero, List.set_cons_succ]
        refine wpAnyH_ready (rs := [40]) (by as_aux_lemma => kernel_rfl) (by simp) ?_
        refine AllReadyH.cons (o := { dst := some 56, op := Op.call { callee := Callee.value (Operand.func 18), args := #[Operand.tmp 55], argTypes := #[29] }, type := 22, pos := "law.go:28", after := #[{ on := 39, ground := Ground.data }, { on := 38, ground := Ground.chain }, { on := 36, ground := Ground.guard }], guard := some (36, true) }) rfl (fun K hK => ?_) (by exact AllReadyH.nil)
        rw [if_pos (by rfl)]
        go_simp
        refine (rtcells_any n a HA.out _).mono ?_
        rintro e u40 ⟨v40, rfl, hv40, hu40⟩
        obtain ⟨y40, c40, rfl⟩ := hv40.is
        have hS40 := rstep hu40 hS38
        refine hK.out _ _ (by (try dsimp only); (first | exact hS51 | exact hS47 | exact hS45 | exact hS41 | exact hS40 | exact hS38 | exact hS34 | exact hS33 | exact hS29 | exact hS20 | exact hS14 | exact hS11 | exact hS8 | exact hS7 | exact hS3)) (fun hHeld => ?_)
        clear hK K
        simp only [List.setIfInBounds_toArray, List.set_cons_zero, List.set_cons_succ]
        refine wpAnyH_ready (rs := [41]) (by as_aux_lemma => kernel_rfl) (by simp) ?_
        refine AllReadyH.cons (o := { dst := some 57, op := Op.call { callee := Callee.value (Operand.func 8), args := #[Operand.tmp 54, Operand.tmp 56], argTypes := #[22, 22] }, type := 4, pos := "law.go:28", after := #[{ on := 38, ground := Ground.data }, { on := 40, ground := Ground.data }, { on := 40, ground := Ground.chain }, { on := 36, ground := Ground.guard }], guard := some (36, true) }) rfl (fun K hK => ?_) (by exact AllReadyH.nil)
        rw [if_pos (by rfl)]
        go_simp
        refine (equal_same (ceL_len n a) (by omega) (ceL_ok n a HA.out) (hb38.keep hu40) hv40).mono ?_
        rintro e u41 ⟨rfl, hu41⟩
        have hS41 := rstep hu41 hS40
        clear hb38 hg38 hu38 hv40 hu40 hu41
        refine hK.out _ _ (by (try dsimp only); (first | exact hS51 | exact hS47 | exact hS45 | exact hS41 | exact hS40 | exact hS38 | exact hS34 | exact hS33 | exact hS29 | exact hS20 | exact hS14 | exact hS11 | exact hS8 | exact hS7 | exact hS3)) (fun hHeld => ?_)
        clear hK K
        simp only [List.setIfInBounds_toArray, List.set_cons_zero, List.set_cons_succ]
        refine wpAnyH_take (i := 42) (oi := { dst := some 58, op := Op.pick (Operand.tmp 52) (Operand.tmp 57) (Operand.const (Value.bool false)), type := 4, pos := "law.go:28", after := #[{ on := 36, ground := Ground.data }, { on := 41, ground := Ground.data }], guard := none }) (v := ?vq42) rfl (by as_aux_lemma => kernel_rfl) (by as_aux_lemma => kernel_rfl) (by as_aux_lemma => kernel_rfl) (fun _ _ _ h => h) (Or.inl ⟨by rfl, ?yq42⟩) (by assumption) ?rq42
        case yq42 => (intro wS hSw; (try dsimp only at hSw); have q0 := l0 wS hSw; have q1 := l1 wS hSw; have q2 := l2 wS hSw; have q3 := l3 wS hSw; have q4 := l4 wS hSw; go_simp <;> with_reducible rfl)
        simp only [Act.put, List.setIfInBounds_toArray, List.set_cons_zero, List.set_cons_succ]
        refine wpAnyH_take (i := 43) (oi := { dst := some 59, op := Op.move (Operand.tmp 58), type := 4, pos := "law.go:28", after := #[{ on := 42, ground := Ground.data }, { on := 41, ground := Ground.chain }], guard := none }) (v := ?vq43) rfl (by as_aux_lemma => kernel_rfl) (by as_aux_lemma => kernel_rfl) (by as_aux_lemma => kernel_rfl) (fun _ _ _ h => h) (Or.inl ⟨by rfl, ?yq43⟩) (by assumption) ?rq43
        case yq43 => (intro wS hSw; (try dsimp only at hSw); have q0 := l0 wS hSw; have q1 := l1 wS hSw; have q2 := l2 wS hSw; have q3 := l3 wS hSw; have q4 := l4 wS hSw; go_simp <;> with_reducible rfl)
        simp only [Act.put, List.setIfInBounds_toArray, List.set_cons_zero, List.set_cons_succ]
        refine wpAnyH_take (i := 44) (oi := { dst := some 60, op := Op.move (Operand.tmp 0), type := 22, pos := "law.go:28", after := #[{ on := 43, ground := Ground.guard }], guard := some (43, true) }) (v := ?vq44) rfl (by as_aux_lemma => kernel_rfl) (by as_aux_lemma => kernel_rfl) (by as_aux_lemma => kernel_rfl) (fun _ _ _ h => h) (Or.inl ⟨by rfl, ?yq44⟩) (by assumption) ?rq44
        case yq44 => (intro wS hSw; (try dsimp only at hSw); have q0 := l0 wS hSw; have q1 := l1 wS hSw; have q2 := l2 wS hSw; have q3 := l3 wS hSw; have q4 := l4 wS hSw; go_simp <;> with_reducible rfl)
        simp only [Act.put, List.setIfInBounds_toArray, List.set_cons_zero, List.set_cons_succ]
        refine wpAnyH_take (i := 46) (oi := { dst := some 62, op := Op.move (Operand.tmp 0), type := 22, pos := "law.go:28", after := #[{ on := 43, ground := Ground.guard }], guard := some (43, true) }) (v := ?vq45) rfl (by as_aux_lemma => kernel_rfl) (by as_aux_lemma => kernel_rfl) (by as_aux_lemma => kernel_rfl) (fun _ _ _ h => h) (Or.inl ⟨by rfl, ?yq45⟩) (by assumption) ?rq45
        case yq45 => (intro wS hSw; (try dsimp only at hSw); have q0 := l0 wS hSw; have q1 := l1 wS hSw; have q2 := l2 wS hSw; have q3 := l3 wS hSw; have q4 := l4 wS hSw; go_simp <;> with_reducible rfl)
        simp only [Act.put, List.setIfInBounds_toArray, List.set_cons_zero, List.set_cons_succ]
        refine wpAnyH_ready (rs := [45]) (by as_aux_lemma => kernel_rfl) (by simp) ?_
        refine AllReadyH.cons (o := { dst := some 61, op := Op.call { callee := Callee.value (Operand.func 19), args := #[Operand.tmp 60], argTypes := #[22] }, type := 29, pos := "law.go:28", after := #[{ on := 44, ground := Ground.data }, { on := 43, ground := Ground.chain }, { on := 43, ground := Ground.guard }], guard := some (43, true) }) rfl (fun K hK => ?_) (by exact AllReadyH.nil)
        rw [if_pos (by rfl)]
        go_simp
        refine (HT3.out _ hS41).mono ?_
        rintro e u45 ⟨rfl, hu45⟩
        have hS45 := rstep hu45 hS41
        refine hK.out _ _ (by (try dsimp only); (first | exact hS51 | exact hS47 | exact hS45 | exact hS41 | exact hS40 | exact hS38 | exact hS34 | exact hS33 | exact hS29 | exact hS20 | exact hS14 | exact hS11 | exact hS8 | exact hS7 | exact hS3)) (fun hHeld => ?_)
        clear hK K
        simp only [List.setIfInBounds_toArray, List.set_cons_zero, List.set_cons_succ]
        refine wpAnyH_ready (rs := [47]) (by as_aux_lemma => kernel_rfl) (by simp) ?_
        refine AllReadyH.cons (o := { dst := some 63, op := Op.call { callee := Callee.value (Operand.func 20), args := #[Operand.tmp 62], argTypes := #[22] }, type := 29, pos := "law.go:28", after := #[{ on := 46, ground := Ground.data }, { on := 45, ground := Ground.chain }, { on := 43, ground := Ground.guard }], guard := some (43, true) }) rfl (fun K hK => ?_) (by exact AllReadyH.nil)
        rw [if_pos (by rfl)]
        go_simp
        refine (HT4.out _ hS45).mono ?_
        rintro e u47 ⟨rfl, hu47⟩
        have hS47 := rstep hu47 hS45
        refine hK.out _ _ (by (try dsimp only); (first | exact hS51 | exact hS47 | exact hS45 | exact hS41 | exact hS40 | exact hS38 | exact hS34 | exact hS33 | exact hS29 | exact hS20 | exact hS14 | exact hS11 | exact hS8 | exact hS7 | exact hS3)) (fun hHeld => ?_)
        clear hK K
        simp only [List.setIfInBounds_toArray, List.set_cons_zero, List.set_cons_succ]
        refine wpAnyH_take (i := 48) (oi := { dst := some 64, op := Op.binOp BinOp.eql 29 (Operand.tmp 61) (Operand.tmp 63) 29, type := 4, pos := "law.go:28", after := #[{ on := 45, ground := Ground.data }, { on := 47, ground := Ground.data }, { on := 43, ground := Ground.guard }], guard := some (43, true) }) (v := ?vq48) rfl (by as_aux_lemma => kernel_rfl) (by as_aux_lemma => kernel_rfl) (by as_aux_lemma => kernel_rfl) (fun _ _ _ h => h) (Or.inl ⟨by rfl, ?yq48⟩) (by assumption) ?rq48
        case yq48 => (intro wS hSw; (try dsimp only at hSw); have q0 := l0 wS hSw; have q1 := l1 wS hSw; have q2 := l2 wS hSw; have q3 := l3 wS hSw; have q4 := l4 wS hSw; go_simp <;> with_reducible rfl)
        simp only [Act.put, List.setIfInBounds_toArray, List.set_cons_zero, List.set_cons_succ]
        refine wpAnyH_take (i := 49) (oi := { dst := some 65, op := Op.pick (Operand.tmp 59) (Operand.tmp 64) (Operand.const (Value.bool false)), type := 4, pos := "law.go:28", after := #[{ on := 43, ground := Ground.data }, { on := 48, ground := Ground.data }], guard := none }) (v := ?vq49) rfl (by as_aux_lemma => kernel_rfl) (by as_aux_lemma => kernel_rfl) (by as_aux_lemma => kernel_rfl) (fun _ _ _ h => h) (Or.inl ⟨by rfl, ?yq49⟩) (by assumption) ?rq49
        case yq49 => (intro wS hSw; (try dsimp only at hSw); have q0 := l0 wS hSw; have q1 := l1 wS hSw; have q2 := l2 wS hSw; have q3 := l3 wS hSw; have q4 := l4 wS hSw; go_simp <;> with_reducible rfl)
        simp only [Act.put, List.setIfInBounds_toArray, List.set_cons_zero, List.set_cons_succ]
        refine wpAnyH_take (i := 50) (oi := { dst := some 66, op := Op.move (Operand.tmp 65), type := 4, pos := "law.go:28", after := #[{ on := 49, ground := Ground.data }, { on := 47, ground := Ground.chain }], guard := none }) (v := ?vq50) rfl (by as_aux_lemma => kernel_rfl) (by as_aux_lemma => kernel_rfl) (by as_aux_lemma => kernel_rfl) (fun _ _ _ h => h) (Or.inl ⟨by rfl, ?yq50⟩) (by assumption) ?rq50
        case yq50 => (intro wS hSw; (try dsimp only at hSw); have q0 := l0 wS hSw; have q1 := l1 wS hSw; have q2 := l2 wS hSw; have q3 := l3 wS hSw; have q4 := l4 wS hSw; go_simp <;> with_reducible rfl)
        simp only [Act.put, List.setIfInBounds_toArray, List.set_cons_zero, List.set_cons_succ]
        refine wpAnyH_ready (rs := [51]) (by as_aux_lemma => kernel_rfl) (by simp) ?_
        refine AllReadyH.cons (o := { dst := some 67, op := Op.call { callee := Callee.value (Operand.func 7), args := #[], argTypes := #[] }, type := 4, pos := "law.go:28", after := #[{ on := 50, ground := Ground.chain }, { on := 50, ground := Ground.guard }], guard := some (50, true) }) rfl (fun K hK => ?_) (by exact AllReadyH.nil)
        rw [if_pos (by rfl)]
        go_simp
        refine (tworks_any _).mono ?_
        rintro e u51 ⟨rfl, hu51⟩
        have hS51 := rstep hu51 hS47
        refine hK.out _ _ (by (try dsimp only); (first | exact hS51 | exact hS47 | exact hS45 | exact hS41 | exact hS40 | exact hS38 | exact hS34 | exact hS33 | exact hS29 | exact hS20 | exact hS14 | exact hS11 | exact hS8 | exact hS7 | exact hS3)) (fun hHeld => ?_)
        clear hK K
        simp only [List.setIfInBounds_toArray, List.set_cons_zero, List.set_cons_succ]
        refine wpAnyH_take (i := 52) (oi := { dst := some 68, op := Op.pick (Operand.tmp 66) (Operand.tmp 67) (Operand.const (Value.bool false)), type := 4, pos := "law.go:28", after := #[{ on := 50, ground := Ground.data }, { on := 51, ground := Ground.data }], guard := none }) (v := ?vq52) rfl (by as_aux_lemma => kernel_rfl) (by as_aux_lemma => kernel_rfl) (by as_aux_lemma => kernel_rfl) (fun _ _ _ h => h) (Or.inl ⟨by rfl, ?yq52⟩) (by assumption) ?rq52
        case yq52 => (intro wS hSw; (try dsimp only at hSw); have q0 := l0 wS hSw; have q1 := l1 wS hSw; have q2 := l2 wS hSw; have q3 := l3 wS hSw; have q4 := l4 wS hSw; go_simp <;> with_reducible rfl)
        simp only [Act.put, List.setIfInBounds_toArray, List.set_cons_zero, List.set_cons_succ]
        refine wpAnyH_take (i := 53) (oi := { dst := some 6, op := Op.assign (Operand.tmp 68), type := 4, pos := "law.go:28", after := #[{ on := 52, ground := Ground.data }, { on := 51, ground := Ground.chain }, { on := 0, ground := Ground.phase }, { on := 1, ground := Ground.phase }, { on := 2, ground := Ground.phase }, { on := 3, ground := Ground.phase }, { on := 4, ground := Ground.phase }, { on := 5, ground := Ground.phase }, { on := 6, ground := Ground.phase }, { on := 7, ground := Ground.phase }, { on := 8, ground := Ground.phase }, { on := 9, ground := Ground.phase }, { on := 10, ground := Ground.phase }, { on := 11, ground := Ground.phase }, { on := 12, ground := Ground.phase }, { on := 13, ground := Ground.phase }, { on := 14, ground := Ground.phase }, { on := 15, ground := Ground.phase }, { on := 16, ground := Ground.phase }, { on := 17, ground := Ground.phase }, { on := 18, ground := Ground.phase }, { on := 19, ground := Ground.phase }, { on := 20, ground := Ground.phase }, { on := 21, ground := Ground.phase }, { on := 22, ground := Ground.phase }, { on := 23, ground := Ground.phase }, { on := 24, ground := Ground.phase }, { on := 25, ground := Ground.phase }, { on := 26, ground := Ground.phase }, { on := 27, ground := Ground.phase }, { on := 28, ground := Ground.phase }, { on := 29, ground := Ground.phase }, { on := 30, ground := Ground.phase }, { on := 31, ground := Ground.phase }, { on := 32, ground := Ground.phase }, { on := 33, ground := Ground.phase }, { on := 34, ground := Ground.phase }, { on := 35, ground := Ground.phase }, { on := 36, ground := Ground.phase }, { on := 37, ground := Ground.phase }, { on := 38, ground := Ground.phase }, { on := 39, ground := Ground.phase }, { on := 40, ground := Ground.phase }, { on := 41, ground := Ground.phase }, { on := 42, ground := Ground.phase }, { on := 43, ground := Ground.phase }, { on := 44, ground := Ground.phase }, { on := 45, ground := Ground.phase }, { on := 46, ground := Ground.phase }, { on := 47, ground := Ground.phase }, { on := 48, ground := Ground.phase }, { on := 49, ground := Ground.phase }, { on := 50, ground := Ground.phase }, { on := 51, ground := Ground.phase }, { on := 52, ground := Ground.phase }], guard := none }) (v := ?vq53) rfl (by as_aux_lemma => kernel_rfl) (by as_aux_lemma => kernel_rfl) (by as_aux_lemma => kernel_rfl) (fun _ _ _ h => h) (Or.inl ⟨by rfl, ?yq53⟩) (by assumption) ?rq53
        case yq53 => (intro wS hSw; (try dsimp only at hSw); have q0 := l0 wS hSw; have q1 := l1 wS hSw; have q2 := l2 wS hSw; have q3 := l3 wS hSw; have q4 := l4 wS hSw; go_simp <;> with_reducible rfl)
        simp only [Act.put, List.setIfInBounds_toArray, List.set_cons_zero, List.set_cons_succ]
        refine wpAnyH_done (by as_aux_lemma => kernel_rfl) ?_ _
        go_wp2_with fail
        go_ret
        exact ⟨rfl, bstep HV.out hS51⟩
      refine AllReadyH.cons (o := { dst := some 30, op := Op.call { callee := Callee.value (Operand.func 12), args := #[Operand.tmp 29], argTypes := #[22] }, type := 23, pos := "law.go:28", after := #[{ on := 13, ground := Ground.data }, { on := 11, ground := Ground.chain }, { on := 9, ground := Ground.guard }], guard := some (9, true) }) rfl (fun K hK => ?_) (by exact AllReadyH.nil)
      rw [if_pos (by rfl)]
      go_simp
      refine (rtbytes_any B _ l (by have := HLB.out; omega) _ (HCS.out _ hS11)).mono ?_
      rintro e u14 ⟨v14, rfl, hv14, hu14⟩
      have k15 := conv_byteso _ _ _ u14 hv14.bt.bto (by rw [List.length_map]; have := HLB.out; omega)
      obtain ⟨y14, c14, rfl⟩ := hv14.is
      simp only [List.length_map] at k15 hv14
      have hS14 := rstep hu14 hS11
      have k12b := k12 u14 hu14
      refine hK.out _ _ (by (try dsimp only); (first | exact hS51 | exact hS47 | exact hS45 | exact hS41 | exact hS40 | exact hS38 | exact hS34 | exact hS33 | exact hS29 | exact hS20 | exact hS14 | exact hS11 | exact hS8 | exact hS7 | exact hS3)) (fun hHeld => ?_)
      clear hK K
      simp only [List.setIfInBounds_toArray, List.set_cons_zero, List.set_cons_succ]
      refine wpAnyH_ready (rs := [12, 15]) (by as_aux_lemma => kernel_rfl) (by simp) ?_
      refine AllReadyH.cons (o := { dst := some 28, op := Op.convert 23 9 (Operand.tmp 27), type := 9, pos := "law.go:28", after := #[{ on := 11, ground := Ground.data }, { on := 9, ground := Ground.guard }], guard := some (9, true) }) rfl (fun K hK => ?_) ?_
      · rw [if_pos (by rfl)]
        go_simp
        refine hK.out _ _ (by (try dsimp only); (first | exact hS51 | exact hS47 | exact hS45 | exact hS41 | exact hS40 | exact hS38 | exact hS34 | exact hS33 | exact hS29 | exact hS20 | exact hS14 | exact hS11 | exact hS8 | exact hS7 | exact hS3)) (fun hHeld => ?_)
        clear hK K
        simp only [List.setIfInBounds_toArray, List.set_cons_zero, List.set_cons_succ]
        refine wpAnyH_ready (rs := [15]) (by as_aux_lemma => kernel_rfl) (by simp) ?_
        refine AllReadyH.cons (o := { dst := some 31, op := Op.convert 23 9 (Operand.tmp 30), type := 9, pos := "law.go:28", after := #[{ on := 14, ground := Ground.data }, { on := 9, ground := Ground.guard }], guard := some (9, true) }) rfl (fun K hK => ?_) (by exact AllReadyH.nil)
        rw [if_pos (by rfl)]
        go_simp
        refine hK.out _ _ (by (try dsimp only); (first | exact hS51 | exact hS47 | exact hS45 | exact hS41 | exact hS40 | exact hS38 | exact hS34 | exact hS33 | exact hS29 | exact hS20 | exact hS14 | exact hS11 | exact hS8 | exact hS7 | exact hS3)) (fun hHeld => ?_)
        clear hK K
        simp only [List.setIfInBounds_toArray, List.set_cons_zero, List.set_cons_succ]
        refine wpAnyH_take (i := 16) (oi := { dst := some 32, op := Op.binOp BinOp.eql 9 (Operand.tmp 28) (Operand.tmp 31) 9, type := 4, pos := "law.go:28", after := #[{ on := 12, ground := Ground.data }, { on := 15, ground := Ground.data }, { on := 9, ground := Ground.guard }], guard := some (9, true) }) (v := ?vq57) rfl (by as_aux_lemma => kernel_rfl) (by as_aux_lemma => kernel_rfl) (by as_aux_lemma => kernel_rfl) (fun _ _ _ h => h) (Or.inl ⟨by rfl, ?yq57⟩) (by assumption) ?rq57
        case yq57 => (intro wS hSw; (try dsimp only at hSw); have q0 := l0 wS hSw; have q1 := l1 wS hSw; have q2 := l2 wS hSw; have q3 := l3 wS hSw; have q4 := l4 wS hSw; go_simp <;> with_reducible rfl)
        simp only [Act.put, List.setIfInBounds_toArray, List.set_cons_zero, List.set_cons_succ]
        refine wpAnyH_take (i := 17) (oi := { dst := some 33, op := Op.pick (Operand.tmp 25) (Operand.tmp 32) (Operand.const (Value.bool false)), type := 4, pos := "law.go:28", after := #[{ on := 9, ground := Ground.data }, { on := 16, ground := Ground.data }], guard := none }) (v := ?vq58) rfl (by as_aux_lemma => kernel_rfl) (by as_aux_lemma => kernel_rfl) (by as_aux_lemma => kernel_rfl) (fun _ _ _ h => h) (Or.inl ⟨by rfl, ?yq58⟩) (by assumption) ?rq58
        case yq58 => (intro wS hSw; (try dsimp only at hSw); have q0 := l0 wS hSw; have q1 := l1 wS hSw; have q2 := l2 wS hSw; have q3 := l3 wS hSw; have q4 := l4 wS hSw; go_simp <;> with_reducible rfl)
        simp only [Act.put, List.setIfInBounds_toArray, List.set_cons_zero, List.set_cons_succ]
        refine wpAnyH_take (i := 18) (oi := { dst := some 34, op := Op.move (Operand.tmp 33), type := 4, pos := "law.go:28", after := #[{ on := 17, ground := Ground.data }, { on := 14, ground := Ground.chain }], guard := none }) (v := ?vq59) rfl (by as_aux_lemma => kernel_rfl) (by as_aux_lemma => kernel_rfl) (by as_aux_lemma => kernel_rfl) (fun _ _ _ h => h) (Or.inl ⟨by rfl, ?yq59⟩) (by assumption) ?rq59
        case yq59 => (intro wS hSw; (try dsimp only at hSw); have q0 := l0 wS hSw; have q1 := l1 wS hSw; have q2 := l2 wS hSw; have q3 := l3 wS hSw; have q4 := l4 wS hSw; go_simp <;> with_reducible rfl)
        simp only [Act.put, List.setIfInBounds_toArray, List.set_cons_zero, List.set_cons_succ]
        refine wpAnyH_take (i := 19) (oi := { dst := some 35, op := Op.move (Operand.tmp 0), type := 22, pos := "law.go:28", after := #[{ on := 18, ground := Ground.guard }], guard := some (18, true) }) (v := ?vq60) rfl (by as_aux_lemma => kernel_rfl) (by as_aux_lemma => kernel_rfl) (by as_aux_lemma => kernel_rfl) (fun _ _ _ h => h) (Or.inl ⟨by rfl, ?yq60⟩) (by assumption) ?rq60
        case yq60 => (intro wS hSw; (try dsimp only at hSw); have q0 := l0 wS hSw; have q1 := l1 wS hSw; have q2 := l2 wS hSw; have q3 := l3 wS hSw; have q4 := l4 wS hSw; go_simp <;> with_reducible rfl)
        simp only [Act.put, List.setIfInBounds_toArray, List.set_cons_zero, List.set_cons_succ]
        refine wpAnyH_take (i := 21) (oi := { dst := some 37, op := Op.move (Operand.tmp 0), type := 22, pos := "law.go:28", after := #[{ on := 18, ground := Ground.guard }], guard := some (18, true) }) (v := ?vq61) rfl (by as_aux_lemma => kernel_rfl) (by as_aux_lemma => kernel_rfl) (by as_aux_lemma => kernel_rfl) (fun _ _ _ h => h) (Or.inl ⟨by rfl, ?yq61⟩) (by assumption) ?rq61
        case yq61 => (intro wS hSw; (try dsimp only at hSw); have q0 := l0 wS hSw; have q1 := l1 wS hSw; have q2 := l2 wS hSw; have q3 := l3 wS hSw; have q4 := l4 wS hSw; go_simp <;> with_reducible rfl)
        simp only [Act.put, List.setIfInBounds_toArray, List.set_cons_zero, List.set_cons_succ]
        refine wpAnyH_ready (rs := [20]) (by as_aux_lemma => kernel_rfl) (by simp) ?_
        refine AllReadyH.cons (o := { dst := some 36, op := Op.call { callee := Callee.value (Operand.func 13), args := #[Operand.tmp 35], argTypes := #[22] }, type := 27, pos := "law.go:28", after := #[{ on := 19, ground := Ground.data }, { on := 18, ground := Ground.chain }, { on := 18, ground := Ground.guard }], guard := some (18, true) }) rfl (fun K hK => ?_) (by exact AllReadyH.nil)
        rw [if_pos (by rfl)]
        go_simp
        refine (HT1.out _ hS14).mono ?_
        rintro e u20 ⟨rfl, hu20⟩
        have hS20 := rstep hu20 hS14
        clear k12 k12a k12b k15
        refine hK.out _ _ (by (try dsimp only); (first | exact hS51 | exact hS47 | exact hS45 | exact hS41 | exact hS40 | exact hS38 | exact hS34 | exact hS33 | exact hS29 | exact hS20 | exact hS14 | exact hS11 | exact hS8 | exact hS7 | exact hS3)) (fun hHeld => ?_)
        clear hK K
        simp only [List.setIfInBounds_toArray, List.set_cons_zero, List.set_cons_succ]
        refine wpAnyH_ready (rs := [22]) (by as_aux_lemma => kernel_rfl) (by simp) ?_
        refine AllReadyH.cons (o := { dst := some 38, op := Op.call { callee := Callee.value (Operand.func 14), args := #[Operand.tmp 37], argTypes := #[22] }, type := 27, pos := "law.go:28", after := #[{ on := 21, ground := Ground.data }, { on := 20, ground := Ground.chain }, { on := 18, ground := Ground.guard }], guard := some (18, true) }) rfl (fun K hK => ?_) (by exact AllReadyH.nil)
        rw [if_pos (by rfl)]
        go_simp
        refine (HT2.out _ hS20).mono ?_
        rintro e u22 ⟨rfl, rfl⟩
        refine hK.out _ _ (by (try dsimp only); (first | exact hS51 | exact hS47 | exact hS45 | exact hS41 | exact hS40 | exact hS38 | exact hS34 | exact hS33 | exact hS29 | exact hS20 | exact hS14 | exact hS11 | exact hS8 | exact hS7 | exact hS3)) (fun hHeld => ?_)
        clear hK K
        simp only [List.setIfInBounds_toArray, List.set_cons_zero, List.set_cons_succ]
        refine wpAnyH_take (i := 23) (oi := { dst := some 39, op := Op.binOp BinOp.eql 27 (Operand.tmp 36) (Operand.tmp 38) 27, type := 4, pos := "law.go:28", after := #[{ on := 20, ground := Ground.data }, { on := 22, ground := Ground.data }, { on := 18, ground := Ground.guard }], guard := some (18, true) }) (v := ?vq64) rfl (by as_aux_lemma => kernel_rfl) (by as_aux_lemma => kernel_rfl) (by as_aux_lemma => kernel_rfl) (fun _ _ _ h => h) (Or.inl ⟨by rfl, ?yq64⟩) (by assumption) ?rq64
        case yq64 => (intro wS hSw; (try dsimp only at hSw); have q0 := l0 wS hSw; have q1 := l1 wS hSw; have q2 := l2 wS hSw; have q3 := l3 wS hSw; have q4 := l4 wS hSw; go_simp <;> with_reducible rfl)
        simp only [Act.put, List.setIfInBounds_toArray, List.set_cons_zero, List.set_cons_succ]
        refine wpAnyH_take (i := 24) (oi := { dst := some 40, op := Op.pick (Operand.tmp 34) (Operand.tmp 39) (Operand.const (Value.bool false)), type := 4, pos := "law.go:28", after := #[{ on := 18, ground := Ground.data }, { on := 23, ground := Ground.data }], guard := none }) (v := ?vq65) rfl (by as_aux_lemma => kernel_rfl) (by as_aux_lemma => kernel_rfl) (by as_aux_lemma => kernel_rfl) (fun _ _ _ h => h) (Or.inl ⟨by rfl, ?yq65⟩) (by assumption) ?rq65
        case yq65 => (intro wS hSw; (try dsimp only at hSw); have q0 := l0 wS hSw; have q1 := l1 wS hSw; have q2 := l2 wS hSw; have q3 := l3 wS hSw; have q4 := l4 wS hSw; go_simp <;> with_reducible rfl)
        simp only [Act.put, List.setIfInBounds_toArray, List.set_cons_zero, List.set_cons_succ]
        refine wpAnyH_take (i := 25) (oi := { dst := some 41, op := Op.move (Operand.tmp 40), type := 4, pos := "law.go:28", after := #[{ on := 24, ground := Ground.data }, { on := 22, ground := Ground.chain }], guard := none }) (v := ?vq66) rfl (by as_aux_lemma => kernel_rfl) (by as_aux_lemma => kernel_rfl) (by as_aux_lemma => kernel_rfl) (fun _ _ _ h => h) (Or.inl ⟨by rfl, ?yq66⟩) (by assumption) ?rq66
        case yq66 => (intro wS hSw; (try dsimp only at hSw); have q0 := l0 wS hSw; have q1 := l1 wS hSw; have q2 := l2 wS hSw; have q3 := l3 wS hSw; have q4 := l4 wS hSw; go_simp <;> with_reducible rfl)
        simp only [Act.put, List.setIfInBounds_toArray, List.set_cons_zero, List.set_cons_succ]
        refine wpAnyH_take (i := 26) (oi := { dst := some 42, op := Op.fieldAddr 29 (Operand.tmp 5) 1, type := 0, pos := "law.go:28", after := #[{ on := 25, ground := Ground.guard }], guard := some (25, true) }) (v := ?vq67) rfl (by as_aux_lemma => kernel_rfl) (by as_aux_lemma => kernel_rfl) (by as_aux_lemma => kernel_rfl) (fun _ _ _ h => h) (Or.inl ⟨by rfl, ?yq67⟩) (by assumption) ?rq67
        case yq67 => (intro wS hSw; (try dsimp only at hSw); have q0 := l0 wS hSw; have q1 := l1 wS hSw; have q2 := l2 wS hSw; have q3 := l3 wS hSw; have q4 := l4 wS hSw; go_simp <;> with_reducible rfl)
        simp only [Act.put, List.setIfInBounds_toArray, List.set_cons_zero, List.set_cons_succ]
        refine wpAnyH_take (i := 27) (oi := { dst := some 43, op := Op.load 27 (Operand.tmp 42), type := 27, pos := "law.go:28", after := #[{ on := 26, ground := Ground.data }, { on := 25, ground := Ground.guard }], guard := some (25, true) }) (v := ?vq68) rfl (by as_aux_lemma => kernel_rfl) (by as_aux_lemma => kernel_rfl) (by as_aux_lemma => kernel_rfl) (fun _ _ _ h => h) (Or.inl ⟨by rfl, ?yq68⟩) (by assumption) ?rq68
        case yq68 => (intro wS hSw; (try dsimp only at hSw); have q0 := l0 wS hSw; have q1 := l1 wS hSw; have q2 := l2 wS hSw; have q3 := l3 wS hSw; have q4 := l4 wS hSw; go_simp <;> with_reducible rfl)
        simp only [Act.put, List.setIfInBounds_toArray, List.set_cons_zero, List.set_cons_succ]
        refine wpAnyH_take (i := 28) (oi := { dst := some 44, op := Op.move (Operand.tmp 0), type := 22, pos := "law.go:28", after := #[{ on := 25, ground := Ground.guard }], guard := some (25, true) }) (v := ?vq69) rfl (by as_aux_lemma => kernel_rfl) (by as_aux_lemma => kernel_rfl) (by as_aux_lemma => kernel_rfl) (fun _ _ _ h => h) (Or.inl ⟨by rfl, ?yq69⟩) (by assumption) ?rq69
        case yq69 => (intro wS hSw; (try dsimp only at hSw); have q0 := l0 wS hSw; have q1 := l1 wS hSw; have q2 := l2 wS hSw; have q3 := l3 wS hSw; have q4 := l4 wS hSw; go_simp <;> with_reducible rfl)
        simp only [Act.put, List.setIfInBounds_toArray, List.set_cons_zero, List.set_cons_succ]
        refine wpAnyH_take (i := 30) (oi := { dst := some 46, op := Op.fieldAddr 29 (Operand.tmp 5) 1, type := 0, pos := "law.go:28", after := #[{ on := 25, ground := Ground.guard }], guard := some (25, true) }) (v := ?vq70) rfl (by as_aux_lemma => kernel_rfl) (by as_aux_lemma => kernel_rfl) (by as_aux_lemma => kernel_rfl) (fun _ _ _ h => h) (Or.inl ⟨by rfl, ?yq70⟩) (by assumption) ?rq70
        case yq70 => (intro wS hSw; (try dsimp only at hSw); have q0 := l0 wS hSw; have q1 := l1 wS hSw; have q2 := l2 wS hSw; have q3 := l3 wS hSw; have q4 := l4 wS hSw; go_simp <;> with_reducible rfl)
        simp only [Act.put, List.setIfInBounds_toArray, List.set_cons_zero, List.set_cons_succ]
        refine wpAnyH_take (i := 31) (oi := { dst := some 47, op := Op.load 27 (Operand.tmp 46), type := 27, pos := "law.go:28", after := #[{ on := 30, ground := Ground.data }, { on := 25, ground := Ground.guard }], guard := some (25, true) }) (v := ?vq71) rfl (by as_aux_lemma => kernel_rfl) (by as_aux_lemma => kernel_rfl) (by as_aux_lemma => kernel_rfl) (fun _ _ _ h => h) (Or.inl ⟨by rfl, ?yq71⟩) (by assumption) ?rq71
        case yq71 => (intro wS hSw; (try dsimp only at hSw); have q0 := l0 wS hSw; have q1 := l1 wS hSw; have q2 := l2 wS hSw; have q3 := l3 wS hSw; have q4 := l4 wS hSw; go_simp <;> with_reducible rfl)
        simp only [Act.put, List.setIfInBounds_toArray, List.set_cons_zero, List.set_cons_succ]
        refine wpAnyH_take (i := 32) (oi := { dst := some 48, op := Op.move (Operand.tmp 0), type := 22, pos := "law.go:28", after := #[{ on := 25, ground := Ground.guard }], guard := some (25, true) }) (v := ?vq72) rfl (by as_aux_lemma => kernel_rfl) (by as_aux_lemma => kernel_rfl) (by as_aux_lemma => kernel_rfl) (fun _ _ _ h => h) (Or.inl ⟨by rfl, ?yq72⟩) (by assumption) ?rq72
        case yq72 => (intro wS hSw; (try dsimp only at hSw); have q0 := l0 wS hSw; have q1 := l1 wS hSw; have q2 := l2 wS hSw; have q3 := l3 wS hSw; have q4 := l4 wS hSw; go_simp <;> with_reducible rfl)
        simp only [Act.put, List.setIfInBounds_toArray, List.set_cons_zero, List.set_cons_succ]
        refine wpAnyH_ready (rs := [29]) (by as_aux_lemma => kernel_rfl) (by simp) ?_
        refine AllReadyH.cons (o := { dst := some 45, op := Op.call { callee := Callee.value (Operand.func 15), args := #[Operand.tmp 43, Operand.tmp 44], argTypes := #[27, 22] }, type := 22, pos := "law.go:28", after := #[{ on := 27, ground := Ground.data }, { on := 28, ground := Ground.data }, { on := 25, ground := Ground.chain }, { on := 25, ground := Ground.guard }], guard := some (25, true) }) rfl (fun K hK => ?_) (by exact AllReadyH.nil)
        rw [if_pos (by rfl)]
        go_simp
        refine (tjoin_any B a HA.out _ l (by have := HLB.out; omega) _ (HCS.out _ hS20)).mono ?_
        rintro e u29 ⟨g29, rfl, hg29, hb29, hu29⟩
        have hS29 := rstep hu29 hS20
        refine hK.out _ _ (by (try dsimp only); (first | exact hS51 | exact hS47 | exact hS45 | exact hS41 | exact hS40 | exact hS38 | exact hS34 | exact hS33 | exact hS29 | exact hS20 | exact hS14 | exact hS11 | exact hS8 | exact hS7 | exact hS3)) (fun hHeld => ?_)
        clear hK K
        simp only [List.setIfInBounds_toArray, List.set_cons_zero, List.set_cons_succ]
        refine wpAnyH_ready (rs := [33]) (by as_aux_lemma => kernel_rfl) (by simp) ?_
        refine AllReadyH.cons (o := { dst := some 49, op := Op.call { callee := Callee.value (Operand.func 16), args := #[Operand.tmp 47, Operand.tmp 48], argTypes := #[27, 22] }, type := 22, pos := "law.go:28", after := #[{ on := 31, ground := Ground.data }, { on := 32, ground := Ground.data }, { on := 29, ground := Ground.chain }, { on := 25, ground := Ground.guard }], guard := some (25, true) }) rfl (fun K hK => ?_) (by exact AllReadyH.nil)
        rw [if_pos (by rfl)]
        go_simp
        refine (rtjoin_any B a HA.out _ l (by have := HLB.out; omega) _ (HCS.out _ hS29)).mono ?_
        rintro e u33 ⟨v33, rfl, hv33, hu33⟩
        obtain ⟨y33, c33, rfl⟩ := hv33.is
        simp only [List.length_map] at hv33
        have hS33 := rstep hu33 hS29
        refine hK.out _ _ (by (try dsimp only); (first | exact hS51 | exact hS47 | exact hS45 | exact hS41 | exact hS40 | exact hS38 | exact hS34 | exact hS33 | exact hS29 | exact hS20 | exact hS14 | exact hS11 | exact hS8 | exact hS7 | exact hS3)) (fun hHeld => ?_)
        clear hK K
        simp only [List.setIfInBounds_toArray, List.set_cons_zero, List.set_cons_succ]
        refine wpAnyH_ready (rs := [34]) (by as_aux_lemma => kernel_rfl) (by simp) ?_
        refine AllReadyH.cons (o := { dst := some 50, op := Op.call { callee := Callee.value (Operand.func 8), args := #[Operand.tmp 45, Operand.tmp 49], argTypes := #[22, 22] }, type := 4, pos := "law.go:28", after := #[{ on := 29, ground := Ground.data }, { on := 33, ground := Ground.data }, { on := 33, ground := Ground.chain }, { on := 25, ground := Ground.guard }], guard := some (25, true) }) rfl (fun K hK => ?_) (by exact AllReadyH.nil)
        rw [if_pos (by rfl)]
        go_simp
        refine (equal_same (List.length_map ..) (by have := HLB.out; omega) HOJ.out (hb29.keep hu33) (by have h9 := hv33; rw [HJJ.out] at h9; exact h9)).mono ?_
        rintro e u34 ⟨rfl, hu34⟩
        have hS34 := rstep hu34 hS33
        clear hb29 hg29 hu29 hv33 hu33 hu34
        refine hK.out _ _ (by (try dsimp only); (first | exact hS51 | exact hS47 | exact hS45 | exact hS41 | exact hS40 | exact hS38 | exact hS34 | exact hS33 | exact hS29 | exact hS20 | exact hS14 | exact hS11 | exact hS8 | exact hS7 | exact hS3)) (fun hHeld => ?_)
        clear hK K
        simp only [List.setIfInBounds_toArray, List.set_cons_zero, List.set_cons_succ]
        refine wpAnyH_take (i := 35) (oi := { dst := some 51, op := Op.pick (Operand.tmp 41) (Operand.tmp 50) (Operand.const (Value.bool false)), type := 4, pos := "law.go:28", after := #[{ on := 25, ground := Ground.data }, { on := 34, ground := Ground.data }], guard := none }) (v := ?vq76) rfl (by as_aux_lemma => kernel_rfl) (by as_aux_lemma => kernel_rfl) (by as_aux_lemma => kernel_rfl) (fun _ _ _ h => h) (Or.inl ⟨by rfl, ?yq76⟩) (by assumption) ?rq76
        case yq76 => (intro wS hSw; (try dsimp only at hSw); have q0 := l0 wS hSw; have q1 := l1 wS hSw; have q2 := l2 wS hSw; have q3 := l3 wS hSw; have q4 := l4 wS hSw; go_simp <;> with_reducible rfl)
        simp only [Act.put, List.setIfInBounds_toArray, List.set_cons_zero, List.set_cons_succ]
        refine wpAnyH_take (i := 36) (oi := { dst := some 52, op := Op.move (Operand.tmp 51), type := 4, pos := "law.go:28", after := #[{ on := 35, ground := Ground.data }, { on := 34, ground := Ground.chain }], guard := none }) (v := ?vq77) rfl (by as_aux_lemma => kernel_rfl) (by as_aux_lemma => kernel_rfl) (by as_aux_lemma => kernel_rfl) (fun _ _ _ h => h) (Or.inl ⟨by rfl, ?yq77⟩) (by assumption) ?rq77
        case yq77 => (intro wS hSw; (try dsimp only at hSw); have q0 := l0 wS hSw; have q1 := l1 wS hSw; have q2 := l2 wS hSw; have q3 := l3 wS hSw; have q4 := l4 wS hSw; go_simp <;> with_reducible rfl)
        simp only [Act.put, List.setIfInBounds_toArray, List.set_cons_zero, List.set_cons_succ]
        refine wpAnyH_take (i := 37) (oi := { dst := some 53, op := Op.load 29 (Operand.tmp 5), type := 29, pos := "law.go:28", after := #[{ on := 36, ground := Ground.guard }], guard := some (36, true) }) (v := ?vq78) rfl (by as_aux_lemma => kernel_rfl) (by as_aux_lemma => kernel_rfl) (by as_aux_lemma => kernel_rfl) (fun _ _ _ h => h) (Or.inl ⟨by rfl, ?yq78⟩) (by assumption) ?rq78
        case yq78 => (intro wS hSw; (try dsimp only at hSw); have q0 := l0 wS hSw; have q1 := l1 wS hSw; have q2 := l2 wS hSw; have q3 := l3 wS hSw; have q4 := l4 wS hSw; go_simp <;> with_reducible rfl)
        simp only [Act.put, List.setIfInBounds_toArray, List.set_cons_zero, List.set_cons_succ]
        refine wpAnyH_take (i := 39) (oi := { dst := some 55, op := Op.load 29 (Operand.tmp 5), type := 29, pos := "law.go:28", after := #[{ on := 36, ground := Ground.guard }], guard := some (36, true) }) (v := ?vq79) rfl (by as_aux_lemma => kernel_rfl) (by as_aux_lemma => kernel_rfl) (by as_aux_lemma => kernel_rfl) (fun _ _ _ h => h) (Or.inl ⟨by rfl, ?yq79⟩) (by assumption) ?rq79
        case yq79 => (intro wS hSw; (try dsimp only at hSw); have q0 := l0 wS hSw; have q1 := l1 wS hSw; have q2 := l2 wS hSw; have q3 := l3 wS hSw; have q4 := l4 wS hSw; go_simp <;> with_reducible rfl)
        simp only [Act.put, List.setIfInBounds_toArray, List.set_cons_zero, List.set_cons_succ]
        refine wpAnyH_ready (rs := [38]) (by as_aux_lemma => kernel_rfl) (by simp) ?_
        refine AllReadyH.cons (o := { dst := some 54, op := Op.call { callee := Callee.value (Operand.func 17), args := #[Operand.tmp 53], argTypes := #[29] }, type := 22, pos := "law.go:28", after := #[{ on := 37, ground := Ground.data }, { on := 36, ground := Ground.chain }, { on := 36, ground := Ground.guard }], guard := some (36, true) }) rfl (fun K hK => ?_) (by exact AllReadyH.nil)
        rw [if_pos (by rfl)]
        go_simp
        refine (tcells_any n a HA.out _).mono ?_
        rintro e u38 ⟨g38, rfl, hg38, hb38, hu38⟩
        have hS38 := rstep hu38 hS34
        refine hK.out _ _ (by (try dsimp only); (first | exact hS51 | exact hS47 | exact hS45 | exact hS41 | exact hS40 | exact hS38 | exact hS34 | exact hS33 | exact hS29 | exact hS20 | exact hS14 | exact hS11 | exact hS8 | exact hS7 | exact hS3)) (fun hHeld => ?_)
        clear hK K
        simp only [List.setIfInBounds_toArray, List.set_cons_zero, List.set_cons_succ]
        refine wpAnyH_ready (rs := [40]) (by as_aux_lemma => kernel_rfl) (by simp) ?_
        refine AllReadyH.cons (o := { dst := some 56, op := Op.call { callee := Callee.value (Operand.func 18), args := #[Operand.tmp 55], argTypes := #[29] }, type := 22, pos := "law.go:28", after := #[{ on := 39, ground := Ground.data }, { on := 38, ground := Ground.chain }, { on := 36, ground := Ground.guard }], guard := some (36, true) }) rfl (fun K hK => ?_) (by exact AllReadyH.nil)
        rw [if_pos (by rfl)]
        go_simp
        refine (rtcells_any n a HA.out _).mono ?_
        rintro e u40 ⟨v40, rfl, hv40, hu40⟩
        obtain ⟨y40, c40, rfl⟩ := hv40.is
        have hS40 := rstep hu40 hS38
        refine hK.out _ _ (by (try dsimp only); (first | exact hS51 | exact hS47 | exact hS45 | exact hS41 | exact hS40 | exact hS38 | exact hS34 | exact hS33 | exact hS29 | exact hS20 | exact hS14 | exact hS11 | exact hS8 | exact hS7 | exact hS3)) (fun hHeld => ?_)
        clear hK K
        simp only [List.setIfInBounds_toArray, List.set_cons_zero, List.set_cons_succ]
        refine wpAnyH_ready (rs := [41]) (by as_aux_lemma => kernel_rfl) (by simp) ?_
        refine AllReadyH.cons (o := { dst := some 57, op := Op.call { callee := Callee.value (Operand.func 8), args := #[Operand.tmp 54, Operand.tmp 56], argTypes := #[22, 22] }, type := 4, pos := "law.go:28", after := #[{ on := 38, ground := Ground.data }, { on := 40, ground := Ground.data }, { on := 40, ground := Ground.chain }, { on := 36, ground := Ground.guard }], guard := some (36, true) }) rfl (fun K hK => ?_) (by exact AllReadyH.nil)
        rw [if_pos (by rfl)]
        go_simp
        refine (equal_same (ceL_len n a) (by omega) (ceL_ok n a HA.out) (hb38.keep hu40) hv40).mono ?_
        rintro e u41 ⟨rfl, hu41⟩
        have hS41 := rstep hu41 hS40
        clear hb38 hg38 hu38 hv40 hu40 hu41
        refine hK.out _ _ (by (try dsimp only); (first | exact hS51 | exact hS47 | exact hS45 | exact hS41 | exact hS40 | exact hS38 | exact hS34 | exact hS33 | exact hS29 | exact hS20 | exact hS14 | exact hS11 | exact hS8 | exact hS7 | exact hS3)) (fun hHeld => ?_)
        clear hK K
        simp only [List.setIfInBounds_toArray, List.set_cons_zero, List.set_cons_succ]
        refine wpAnyH_take (i := 42) (oi := { dst := some 58, op := Op.pick (Operand.tmp 52) (Operand.tmp 57) (Operand.const (Value.bool false)), type := 4, pos := "law.go:28", after := #[{ on := 36, ground := Ground.data }, { on := 41, ground := Ground.data }], guard := none }) (v := ?vq83) rfl (by as_aux_lemma => kernel_rfl) (by as_aux_lemma => kernel_rfl) (by as_aux_lemma => kernel_rfl) (fun _ _ _ h => h) (Or.inl ⟨by rfl, ?yq83⟩) (by assumption) ?rq83
        case yq83 => (intro wS hSw; (try dsimp only at hSw); have q0 := l0 wS hSw; have q1 := l1 wS hSw; have q2 := l2 wS hSw; have q3 := l3 wS hSw; have q4 := l4 wS hSw; go_simp <;> with_reducible rfl)
        simp only [Act.put, List.setIfInBounds_toArray, List.set_cons_zero, List.set_cons_succ]
        refine wpAnyH_take (i := 43) (oi := { dst := some 59, op := Op.move (Operand.tmp 58), type := 4, pos := "law.go:28", after := #[{ on := 42, ground := Ground.data }, { on := 41, ground := Ground.chain }], guard := none }) (v := ?vq84) rfl (by as_aux_lemma => kernel_rfl) (by as_aux_lemma => kernel_rfl) (by as_aux_lemma => kernel_rfl) (fun _ _ _ h => h) (Or.inl ⟨by rfl, ?yq84⟩) (by assumption) ?rq84
        case yq84 => (intro wS hSw; (try dsimp only at hSw); have q0 := l0 wS hSw; have q1 := l1 wS hSw; have q2 := l2 wS hSw; have q3 := l3 wS hSw; have q4 := l4 wS hSw; go_simp <;> with_reducible rfl)
        simp only [Act.put, List.setIfInBounds_toArray, List.set_cons_zero, List.set_cons_succ]
        refine wpAnyH_take (i := 44) (oi := { dst := some 60, op := Op.move (Operand.tmp 0), type := 22, pos := "law.go:28", after := #[{ on := 43, ground := Ground.guard }], guard := some (43, true) }) (v := ?vq85) rfl (by as_aux_lemma => kernel_rfl) (by as_aux_lemma => kernel_rfl) (by as_aux_lemma => kernel_rfl) (fun _ _ _ h => h) (Or.inl ⟨by rfl, ?yq85⟩) (by assumption) ?rq85
        case yq85 => (intro wS hSw; (try dsimp only at hSw); have q0 := l0 wS hSw; have q1 := l1 wS hSw; have q2 := l2 wS hSw; have q3 := l3 wS hSw; have q4 := l4 wS hSw; go_simp <;> with_reducible rfl)
        simp only [Act.put, List.setIfInBounds_toArray, List.set_cons_zero, List.set_cons_succ]
        refine wpAnyH_take (i := 46) (oi := { dst := some 62, op := Op.move (Operand.tmp 0), type := 22, pos := "law.go:28", after := #[{ on := 43, ground := Ground.guard }], guard := some (43, true) }) (v := ?vq86) rfl (by as_aux_lemma => kernel_rfl) (by as_aux_lemma => kernel_rfl) (by as_aux_lemma => kernel_rfl) (fun _ _ _ h => h) (Or.inl ⟨by rfl, ?yq86⟩) (by assumption) ?rq86
        case yq86 => (intro wS hSw; (try dsimp only at hSw); have q0 := l0 wS hSw; have q1 := l1 wS hSw; have q2 := l2 wS hSw; have q3 := l3 wS hSw; have q4 := l4 wS hSw; go_simp <;> with_reducible rfl)
        simp only [Act.put, List.setIfInBounds_toArray, List.set_cons_zero, List.set_cons_succ]
        refine wpAnyH_ready (rs := [45]) (by as_aux_lemma => kernel_rfl) (by simp) ?_
        refine AllReadyH.cons (o := { dst := some 61, op := Op.call { callee := Callee.value (Operand.func 19), args := #[Operand.tmp 60], argTypes := #[22] }, type := 29, pos := "law.go:28", after := #[{ on := 44, ground := Ground.data }, { on := 43, ground := Ground.chain }, { on := 43, ground := Ground.guard }], guard := some (43, true) }) rfl (fun K hK => ?_) (by exact AllReadyH.nil)
        rw [if_pos (by rfl)]
        go_simp
        refine (HT3.out _ hS41).mono ?_
        rintro e u45 ⟨rfl, hu45⟩
        have hS45 := rstep hu45 hS41
        refine hK.out _ _ (by (try dsimp only); (first | exact hS51 | exact hS47 | exact hS45 | exact hS41 | exact hS40 | exact hS38 | exact hS34 | exact hS33 | exact hS29 | exact hS20 | exact hS14 | exact hS11 | exact hS8 | exact hS7 | exact hS3)) (fun hHeld => ?_)
        clear hK K
        simp only [List.setIfInBounds_toArray, List.set_cons_zero, List.set_cons_succ]
        refine wpAnyH_ready (rs := [47]) (by as_aux_lemma => kernel_rfl) (by simp) ?_
        refine AllReadyH.cons (o := { dst := some 63, op := Op.call { callee := Callee.value (Operand.func 20), args := #[Operand.tmp 62], argTypes := #[22] }, type := 29, pos := "law.go:28", after := #[{ on := 46, ground := Ground.data }, { on := 45, ground := Ground.chain }, { on := 43, ground := Ground.guard }], guard := some (43, true) }) rfl (fun K hK => ?_) (by exact AllReadyH.nil)
        rw [if_pos (by rfl)]
        go_simp
        refine (HT4.out _ hS45).mono ?_
        rintro e u47 ⟨rfl, hu47⟩
        have hS47 := rstep hu47 hS45
        refine hK.out _ _ (by (try dsimp only); (first | exact hS51 | exact hS47 | exact hS45 | exact hS41 | exact hS40 | exact hS38 | exact hS34 | exact hS33 | exact hS29 | exact hS20 | exact hS14 | exact hS11 | exact hS8 | exact hS7 | exact hS3)) (fun hHeld => ?_)
        clear hK K
        simp only [List.setIfInBounds_toArray, List.set_cons_zero, List.set_cons_succ]
        refine wpAnyH_take (i := 48) (oi := { dst := some 64, op := Op.binOp BinOp.eql 29 (Operand.tmp 61) (Operand.tmp 63) 29, type := 4, pos := "law.go:28", after := #[{ on := 45, ground := Ground.data }, { on := 47, ground := Ground.data }, { on := 43, ground := Ground.guard }], guard := some (43, true) }) (v := ?vq89) rfl (by as_aux_lemma => kernel_rfl) (by as_aux_lemma => kernel_rfl) (by as_aux_lemma => kernel_rfl) (fun _ _ _ h => h) (Or.inl ⟨by rfl, ?yq89⟩) (by assumption) ?rq89
        case yq89 => (intro wS hSw; (try dsimp only at hSw); have q0 := l0 wS hSw; have q1 := l1 wS hSw; have q2 := l2 wS hSw; have q3 := l3 wS hSw; have q4 := l4 wS hSw; go_simp <;> with_reducible rfl)
        simp only [Act.put, List.setIfInBounds_toArray, List.set_cons_zero, List.set_cons_succ]
        refine wpAnyH_take (i := 49) (oi := { dst := some 65, op := Op.pick (Operand.tmp 59) (Operand.tmp 64) (Operand.const (Value.bool false)), type := 4, pos := "law.go:28", after := #[{ on := 43, ground := Ground.data }, { on := 48, ground := Ground.data }], guard := none }) (v := ?vq90) rfl (by as_aux_lemma => kernel_rfl) (by as_aux_lemma => kernel_rfl) (by as_aux_lemma => kernel_rfl) (fun _ _ _ h => h) (Or.inl ⟨by rfl, ?yq90⟩) (by assumption) ?rq90
        case yq90 => (intro wS hSw; (try dsimp only at hSw); have q0 := l0 wS hSw; have q1 := l1 wS hSw; have q2 := l2 wS hSw; have q3 := l3 wS hSw; have q4 := l4 wS hSw; go_simp <;> with_reducible rfl)
        simp only [Act.put, List.setIfInBounds_toArray, List.set_cons_zero, List.set_cons_succ]
        refine wpAnyH_take (i := 50) (oi := { dst := some 66, op := Op.move (Operand.tmp 65), type := 4, pos := "law.go:28", after := #[{ on := 49, ground := Ground.data }, { on := 47, ground := Ground.chain }], guard := none }) (v := ?vq91) rfl (by as_aux_lemma => kernel_rfl) (by as_aux_lemma => kernel_rfl) (by as_aux_lemma => kernel_rfl) (fun _ _ _ h => h) (Or.inl ⟨by rfl, ?yq91⟩) (by assumption) ?rq91
        case yq91 => (intro wS hSw; (try dsimp only at hSw); have q0 := l0 wS hSw; have q1 := l1 wS hSw; have q2 := l2 wS hSw; have q3 := l3 wS hSw; have q4 := l4 wS hSw; go_simp <;> with_reducible rfl)
        simp only [Act.put, List.setIfInBounds_toArray, List.set_cons_zero, List.set_cons_succ]
        refine wpAnyH_ready (rs := [51]) (by as_aux_lemma => kernel_rfl) (by simp) ?_
        refine AllReadyH.cons (o := { dst := some 67, op := Op.call { callee := Callee.value (Operand.func 7), args := #[], argTypes := #[] }, type := 4, pos := "law.go:28", after := #[{ on := 50, ground := Ground.chain }, { on := 50, ground := Ground.guard }], guard := some (50, true) }) rfl (fun K hK => ?_) (by exact AllReadyH.nil)
        rw [if_pos (by rfl)]
        go_simp
        refine (tworks_any _).mono ?_
        rintro e u51 ⟨rfl, hu51⟩
        have hS51 := rstep hu51 hS47
        refine hK.out _ _ (by (try dsimp only); (first | exact hS51 | exact hS47 | exact hS45 | exact hS41 | exact hS40 | exact hS38 | exact hS34 | exact hS33 | exact hS29 | exact hS20 | exact hS14 | exact hS11 | exact hS8 | exact hS7 | exact hS3)) (fun hHeld => ?_)
        clear hK K
        simp only [List.setIfInBounds_toArray, List.set_cons_zero, List.set_cons_succ]
        refine wpAnyH_take (i := 52) (oi := { dst := some 68, op := Op.pick (Operand.tmp 66) (Operand.tmp 67) (Operand.const (Value.bool false)), type := 4, pos := "law.go:28", after := #[{ on := 50, ground := Ground.data }, { on := 51, ground := Ground.data }], guard := none }) (v := ?vq93) rfl (by as_aux_lemma => kernel_rfl) (by as_aux_lemma => kernel_rfl) (by as_aux_lemma => kernel_rfl) (fun _ _ _ h => h) (Or.inl ⟨by rfl, ?yq93⟩) (by assumption) ?rq93
        case yq93 => (intro wS hSw; (try dsimp only at hSw); have q0 := l0 wS hSw; have q1 := l1 wS hSw; have q2 := l2 wS hSw; have q3 := l3 wS hSw; have q4 := l4 wS hSw; go_simp <;> with_reducible rfl)
        simp only [Act.put, List.setIfInBounds_toArray, List.set_cons_zero, List.set_cons_succ]
        refine wpAnyH_take (i := 53) (oi := { dst := some 6, op := Op.assign (Operand.tmp 68), type := 4, pos := "law.go:28", after := #[{ on := 52, ground := Ground.data }, { on := 51, ground := Ground.chain }, { on := 0, ground := Ground.phase }, { on := 1, ground := Ground.phase }, { on := 2, ground := Ground.phase }, { on := 3, ground := Ground.phase }, { on := 4, ground := Ground.phase }, { on := 5, ground := Ground.phase }, { on := 6, ground := Ground.phase }, { on := 7, ground := Ground.phase }, { on := 8, ground := Ground.phase }, { on := 9, ground := Ground.phase }, { on := 10, ground := Ground.phase }, { on := 11, ground := Ground.phase }, { on := 12, ground := Ground.phase }, { on := 13, ground := Ground.phase }, { on := 14, ground := Ground.phase }, { on := 15, ground := Ground.phase }, { on := 16, ground := Ground.phase }, { on := 17, ground := Ground.phase }, { on := 18, ground := Ground.phase }, { on := 19, ground := Ground.phase }, { on := 20, ground := Ground.phase }, { on := 21, ground := Ground.phase }, { on := 22, ground := Ground.phase }, { on := 23, ground := Ground.phase }, { on := 24, ground := Ground.phase }, { on := 25, ground := Ground.phase }, { on := 26, ground := Ground.phase }, { on := 27, ground := Ground.phase }, { on := 28, ground := Ground.phase }, { on := 29, ground := Ground.phase }, { on := 30, ground := Ground.phase }, { on := 31, ground := Ground.phase }, { on := 32, ground := Ground.phase }, { on := 33, ground := Ground.phase }, { on := 34, ground := Ground.phase }, { on := 35, ground := Ground.phase }, { on := 36, ground := Ground.phase }, { on := 37, ground := Ground.phase }, { on := 38, ground := Ground.phase }, { on := 39, ground := Ground.phase }, { on := 40, ground := Ground.phase }, { on := 41, ground := Ground.phase }, { on := 42, ground := Ground.phase }, { on := 43, ground := Ground.phase }, { on := 44, ground := Ground.phase }, { on := 45, ground := Ground.phase }, { on := 46, ground := Ground.phase }, { on := 47, ground := Ground.phase }, { on := 48, ground := Ground.phase }, { on := 49, ground := Ground.phase }, { on := 50, ground := Ground.phase }, { on := 51, ground := Ground.phase }, { on := 52, ground := Ground.phase }], guard := none }) (v := ?vq94) rfl (by as_aux_lemma => kernel_rfl) (by as_aux_lemma => kernel_rfl) (by as_aux_lemma => kernel_rfl) (fun _ _ _ h => h) (Or.inl ⟨by rfl, ?yq94⟩) (by assumption) ?rq94
        case yq94 => (intro wS hSw; (try dsimp only at hSw); have q0 := l0 wS hSw; have q1 := l1 wS hSw; have q2 := l2 wS hSw; have q3 := l3 wS hSw; have q4 := l4 wS hSw; go_simp <;> with_reducible rfl)
        simp only [Act.put, List.setIfInBounds_toArray, List.set_cons_zero, List.set_cons_succ]
        refine wpAnyH_done (by as_aux_lemma => kernel_rfl) ?_ _
        go_wp2_with fail
        go_ret
        exact ⟨rfl, bstep HV.out hS51⟩
      refine AllReadyH.cons (o := { dst := some 31, op := Op.convert 23 9 (Operand.tmp 30), type := 9, pos := "law.go:28", after := #[{ on := 14, ground := Ground.data }, { on := 9, ground := Ground.guard }], guard := some (9, true) }) rfl (fun K hK => ?_) (by exact AllReadyH.nil)
      rw [if_pos (by rfl)]
      go_simp
      refine hK.out _ _ (by (try dsimp only); (first | exact hS51 | exact hS47 | exact hS45 | exact hS41 | exact hS40 | exact hS38 | exact hS34 | exact hS33 | exact hS29 | exact hS20 | exact hS14 | exact hS11 | exact hS8 | exact hS7 | exact hS3)) (fun hHeld => ?_)
      clear hK K
      simp only [List.setIfInBounds_toArray, List.set_cons_zero, List.set_cons_succ]
      refine wpAnyH_ready (rs := [12]) (by as_aux_lemma => kernel_rfl) (by simp) ?_
      refine AllReadyH.cons (o := { dst := some 28, op := Op.convert 23 9 (Operand.tmp 27), type := 9, pos := "law.go:28", after := #[{ on := 11, ground := Ground.data }, { on := 9, ground := Ground.guard }], guard := some (9, true) }) rfl (fun K hK => ?_) (by exact AllReadyH.nil)
      rw [if_pos (by rfl)]
      go_simp
      refine hK.out _ _ (by (try dsimp only); (first | exact hS51 | exact hS47 | exact hS45 | exact hS41 | exact hS40 | exact hS38 | exact hS34 | exact hS33 | exact hS29 | exact hS20 | exact hS14 | exact hS11 | exact hS8 | exact hS7 | exact hS3)) (fun hHeld => ?_)
      clear hK K
      simp only [List.setIfInBounds_toArray, List.set_cons_zero, List.set_cons_succ]
      refine wpAnyH_take (i := 16) (oi := { dst := some 32, op := Op.binOp BinOp.eql 9 (Operand.tmp 28) (Operand.tmp 31) 9, type := 4, pos := "law.go:28", after := #[{ on := 12, ground := Ground.data }, { on := 15, ground := Ground.data }, { on := 9, ground := Ground.guard }], guard := some (9, true) }) (v := ?vq97) rfl (by as_aux_lemma => kernel_rfl) (by as_aux_lemma => kernel_rfl) (by as_aux_lemma => kernel_rfl) (fun _ _ _ h => h) (Or.inl ⟨by rfl, ?yq97⟩) (by assumption) ?rq97
      case yq97 => (intro wS hSw; (try dsimp only at hSw); have q0 := l0 wS hSw; have q1 := l1 wS hSw; have q2 := l2 wS hSw; have q3 := l3 wS hSw; have q4 := l4 wS hSw; go_simp <;> with_reducible rfl)
      simp only [Act.put, List.setIfInBounds_toArray, List.set_cons_zero, List.set_cons_succ]
      refine wpAnyH_take (i := 17) (oi := { dst := some 33, op := Op.pick (Operand.tmp 25) (Operand.tmp 32) (Operand.const (Value.bool false)), type := 4, pos := "law.go:28", after := #[{ on := 9, ground := Ground.data }, { on := 16, ground := Ground.data }], guard := none }) (v := ?vq98) rfl (by as_aux_lemma => kernel_rfl) (by as_aux_lemma => kernel_rfl) (by as_aux_lemma => kernel_rfl) (fun _ _ _ h => h) (Or.inl ⟨by rfl, ?yq98⟩) (by assumption) ?rq98
      case yq98 => (intro wS hSw; (try dsimp only at hSw); have q0 := l0 wS hSw; have q1 := l1 wS hSw; have q2 := l2 wS hSw; have q3 := l3 wS hSw; have q4 := l4 wS hSw; go_simp <;> with_reducible rfl)
      simp only [Act.put, List.setIfInBounds_toArray, List.set_cons_zero, List.set_cons_succ]
      refine wpAnyH_take (i := 18) (oi := { dst := some 34, op := Op.move (Operand.tmp 33), type := 4, pos := "law.go:28", after := #[{ on := 17, ground := Ground.data }, { on := 14, ground := Ground.chain }], guard := none }) (v := ?vq99) rfl (by as_aux_lemma => kernel_rfl) (by as_aux_lemma => kernel_rfl) (by as_aux_lemma => kernel_rfl) (fun _ _ _ h => h) (Or.inl ⟨by rfl, ?yq99⟩) (by assumption) ?rq99
      case yq99 => (intro wS hSw; (try dsimp only at hSw); have q0 := l0 wS hSw; have q1 := l1 wS hSw; have q2 := l2 wS hSw; have q3 := l3 wS hSw; have q4 := l4 wS hSw; go_simp <;> with_reducible rfl)
      simp only [Act.put, List.setIfInBounds_toArray, List.set_cons_zero, List.set_cons_succ]
      refine wpAnyH_take (i := 19) (oi := { dst := some 35, op := Op.move (Operand.tmp 0), type := 22, pos := "law.go:28", after := #[{ on := 18, ground := Ground.guard }], guard := some (18, true) }) (v := ?vq100) rfl (by as_aux_lemma => kernel_rfl) (by as_aux_lemma => kernel_rfl) (by as_aux_lemma => kernel_rfl) (fun _ _ _ h => h) (Or.inl ⟨by rfl, ?yq100⟩) (by assumption) ?rq100
      case yq100 => (intro wS hSw; (try dsimp only at hSw); have q0 := l0 wS hSw; have q1 := l1 wS hSw; have q2 := l2 wS hSw; have q3 := l3 wS hSw; have q4 := l4 wS hSw; go_simp <;> with_reducible rfl)
      simp only [Act.put, List.setIfInBounds_toArray, List.set_cons_zero, List.set_cons_succ]
      refine wpAnyH_take (i := 21) (oi := { dst := some 37, op := Op.move (Operand.tmp 0), type := 22, pos := "law.go:28", after := #[{ on := 18, ground := Ground.guard }], guard := some (18, true) }) (v := ?vq101) rfl (by as_aux_lemma => kernel_rfl) (by as_aux_lemma => kernel_rfl) (by as_aux_lemma => kernel_rfl) (fun _ _ _ h => h) (Or.inl ⟨by rfl, ?yq101⟩) (by assumption) ?rq101
      case yq101 => (intro wS hSw; (try dsimp only at hSw); have q0 := l0 wS hSw; have q1 := l1 wS hSw; have q2 := l2 wS hSw; have q3 := l3 wS hSw; have q4 := l4 wS hSw; go_simp <;> with_reducible rfl)
      simp only [Act.put, List.setIfInBounds_toArray, List.set_cons_zero, List.set_cons_succ]
      refine wpAnyH_ready (rs := [20]) (by as_aux_lemma => kernel_rfl) (by simp) ?_
      refine AllReadyH.cons (o := { dst := some 36, op := Op.call { callee := Callee.value (Operand.func 13), args := #[Operand.tmp 35], argTypes := #[22] }, type := 27, pos := "law.go:28", after := #[{ on := 19, ground := Ground.data }, { on := 18, ground := Ground.chain }, { on := 18, ground := Ground.guard }], guard := some (18, true) }) rfl (fun K hK => ?_) (by exact AllReadyH.nil)
      rw [if_pos (by rfl)]
      go_simp
      refine (HT1.out _ hS14).mono ?_
      rintro e u20 ⟨rfl, hu20⟩
      have hS20 := rstep hu20 hS14
      clear k12 k12a k12b k15
      refine hK.out _ _ (by (try dsimp only); (first | exact hS51 | exact hS47 | exact hS45 | exact hS41 | exact hS40 | exact hS38 | exact hS34 | exact hS33 | exact hS29 | exact hS20 | exact hS14 | exact hS11 | exact hS8 | exact hS7 | exact hS3)) (fun hHeld => ?_)
      clear hK K
      simp only [List.setIfInBounds_toArray, List.set_cons_zero, List.set_cons_succ]
      refine wpAnyH_ready (rs := [22]) (by as_aux_lemma => kernel_rfl) (by simp) ?_
      refine AllReadyH.cons (o := { dst := some 38, op := Op.call { callee := Callee.value (Operand.func 14), args := #[Operand.tmp 37], argTypes := #[22] }, type := 27, pos := "law.go:28", after := #[{ on := 21, ground := Ground.data }, { on := 20, ground := Ground.chain }, { on := 18, ground := Ground.guard }], guard := some (18, true) }) rfl (fun K hK => ?_) (by exact AllReadyH.nil)
      rw [if_pos (by rfl)]
      go_simp
      refine (HT2.out _ hS20).mono ?_
      rintro e u22 ⟨rfl, rfl⟩
      refine hK.out _ _ (by (try dsimp only); (first | exact hS51 | exact hS47 | exact hS45 | exact hS41 | exact hS40 | exact hS38 | exact hS34 | exact hS33 | exact hS29 | exact hS20 | exact hS14 | exact hS11 | exact hS8 | exact hS7 | exact hS3)) (fun hHeld => ?_)
      clear hK K
      simp only [List.setIfInBounds_toArray, List.set_cons_zero, List.set_cons_succ]
      refine wpAnyH_take (i := 23) (oi := { dst := some 39, op := Op.binOp BinOp.eql 27 (Operand.tmp 36) (Operand.tmp 38) 27, type := 4, pos := "law.go:28", after := #[{ on := 20, ground := Ground.data }, { on := 22, ground := Ground.data }, { on := 18, ground := Ground.guard }], guard := some (18, true) }) (v := ?vq104) rfl (by as_aux_lemma => kernel_rfl) (by as_aux_lemma => kernel_rfl) (by as_aux_lemma => kernel_rfl) (fun _ _ _ h => h) (Or.inl ⟨by rfl, ?yq104⟩) (by assumption) ?rq104
      case yq104 => (intro wS hSw; (try dsimp only at hSw); have q0 := l0 wS hSw; have q1 := l1 wS hSw; have q2 := l2 wS hSw; have q3 := l3 wS hSw; have q4 := l4 wS hSw; go_simp <;> with_reducible rfl)
      simp only [Act.put, List.setIfInBounds_toArray, List.set_cons_zero, List.set_cons_succ]
      refine wpAnyH_take (i := 24) (oi := { dst := some 40, op := Op.pick (Operand.tmp 34) (Operand.tmp 39) (Operand.const (Value.bool false)), type := 4, pos := "law.go:28", after := #[{ on := 18, ground := Ground.data }, { on := 23, ground := Ground.data }], guard := none }) (v := ?vq105) rfl (by as_aux_lemma => kernel_rfl) (by as_aux_lemma => kernel_rfl) (by as_aux_lemma => kernel_rfl) (fun _ _ _ h => h) (Or.inl ⟨by rfl, ?yq105⟩) (by assumption) ?rq105
      case yq105 => (intro wS hSw; (try dsimp only at hSw); have q0 := l0 wS hSw; have q1 := l1 wS hSw; have q2 := l2 wS hSw; have q3 := l3 wS hSw; have q4 := l4 wS hSw; go_simp <;> with_reducible rfl)
      simp only [Act.put, List.setIfInBounds_toArray, List.set_cons_zero, List.set_cons_succ]
      refine wpAnyH_take (i := 25) (oi := { dst := some 41, op := Op.move (Operand.tmp 40), type := 4, pos := "law.go:28", after := #[{ on := 24, ground := Ground.data }, { on := 22, ground := Ground.chain }], guard := none }) (v := ?vq106) rfl (by as_aux_lemma => kernel_rfl) (by as_aux_lemma => kernel_rfl) (by as_aux_lemma => kernel_rfl) (fun _ _ _ h => h) (Or.inl ⟨by rfl, ?yq106⟩) (by assumption) ?rq106
      case yq106 => (intro wS hSw; (try dsimp only at hSw); have q0 := l0 wS hSw; have q1 := l1 wS hSw; have q2 := l2 wS hSw; have q3 := l3 wS hSw; have q4 := l4 wS hSw; go_simp <;> with_reducible rfl)
      simp only [Act.put, List.setIfInBounds_toArray, List.set_cons_zero, List.set_cons_succ]
      refine wpAnyH_take (i := 26) (oi := { dst := some 42, op := Op.fieldAddr 29 (Operand.tmp 5) 1, type := 0, pos := "law.go:28", after := #[{ on := 25, ground := Ground.guard }], guard := some (25, true) }) (v := ?vq107) rfl (by as_aux_lemma => kernel_rfl) (by as_aux_lemma => kernel_rfl) (by as_aux_lemma => kernel_rfl) (fun _ _ _ h => h) (Or.inl ⟨by rfl, ?yq107⟩) (by assumption) ?rq107
      case yq107 => (intro wS hSw; (try dsimp only at hSw); have q0 := l0 wS hSw; have q1 := l1 wS hSw; have q2 := l2 wS hSw; have q3 := l3 wS hSw; have q4 := l4 wS hSw; go_simp <;> with_reducible rfl)
      simp only [Act.put, List.setIfInBounds_toArray, List.set_cons_zero, List.set_cons_succ]
      refine wpAnyH_take (i := 27) (oi := { dst := some 43, op := Op.load 27 (Operand.tmp 42), type := 27, pos := "law.go:28", after := #[{ on := 26, ground := Ground.data }, { on := 25, ground := Ground.guard }], guard := some (25, true) }) (v := ?vq108) rfl (by as_aux_lemma => kernel_rfl) (by as_aux_lemma => kernel_rfl) (by as_aux_lemma => kernel_rfl) (fun _ _ _ h => h) (Or.inl ⟨by rfl, ?yq108⟩) (by assumption) ?rq108
      case yq108 => (intro wS hSw; (try dsimp only at hSw); have q0 := l0 wS hSw; have q1 := l1 wS hSw; have q2 := l2 wS hSw; have q3 := l3 wS hSw; have q4 := l4 wS hSw; go_simp <;> with_reducible rfl)
      simp only [Act.put, List.setIfInBounds_toArray, List.set_cons_zero, List.set_cons_succ]
      refine wpAnyH_take (i := 28) (oi := { dst := some 44, op := Op.move (Operand.tmp 0), type := 22, pos := "law.go:28", after := #[{ on := 25, ground := Ground.guard }], guard := some (25, true) }) (v := ?vq109) rfl (by as_aux_lemma => kernel_rfl) (by as_aux_lemma => kernel_rfl) (by as_aux_lemma => kernel_rfl) (fun _ _ _ h => h) (Or.inl ⟨by rfl, ?yq109⟩) (by assumption) ?rq109
      case yq109 => (intro wS hSw; (try dsimp only at hSw); have q0 := l0 wS hSw; have q1 := l1 wS hSw; have q2 := l2 wS hSw; have q3 := l3 wS hSw; have q4 := l4 wS hSw; go_simp <;> with_reducible rfl)
      simp only [Act.put, List.setIfInBounds_toArray, List.set_cons_zero, List.set_cons_succ]
      refine wpAnyH_take (i := 30) (oi := { dst := some 46, op := Op.fieldAddr 29 (Operand.tmp 5) 1, type := 0, pos := "law.go:28", after := #[{ on := 25, ground := Ground.guard }], guard := some (25, true) }) (v := ?vq110) rfl (by as_aux_lemma => kernel_rfl) (by as_aux_lemma => kernel_rfl) (by as_aux_lemma => kernel_rfl) (fun _ _ _ h => h) (Or.inl ⟨by rfl, ?yq110⟩) (by assumption) ?rq110
      case yq110 => (intro wS hSw; (try dsimp only at hSw); have q0 := l0 wS hSw; have q1 := l1 wS hSw; have q2 := l2 wS hSw; have q3 := l3 wS hSw; have q4 := l4 wS hSw; go_simp <;> with_reducible rfl)
      simp only [Act.put, List.setIfInBounds_toArray, List.set_cons_zero, List.set_cons_succ]
      refine wpAnyH_take (i := 31) (oi := { dst := some 47, op := Op.load 27 (Operand.tmp 46), type := 27, pos := "law.go:28", after := #[{ on := 30, ground := Ground.data }, { on := 25, ground := Ground.guard }], guard := some (25, true) }) (v := ?vq111) rfl (by as_aux_lemma => kernel_rfl) (by as_aux_lemma => kernel_rfl) (by as_aux_lemma => kernel_rfl) (fun _ _ _ h => h) (Or.inl ⟨by rfl, ?yq111⟩) (by assumption) ?rq111
      case yq111 => (intro wS hSw; (try dsimp only at hSw); have q0 := l0 wS hSw; have q1 := l1 wS hSw; have q2 := l2 wS hSw; have q3 := l3 wS hSw; have q4 := l4 wS hSw; go_simp <;> with_reducible rfl)
      simp only [Act.put, List.setIfInBounds_toArray, List.set_cons_zero, List.set_cons_succ]
      refine wpAnyH_take (i := 32) (oi := { dst := some 48, op := Op.move (Operand.tmp 0), type := 22, pos := "law.go:28", after := #[{ on := 25, ground := Ground.guard }], guard := some (25, true) }) (v := ?vq112) rfl (by as_aux_lemma => kernel_rfl) (by as_aux_lemma => kernel_rfl) (by as_aux_lemma => kernel_rfl) (fun _ _ _ h => h) (Or.inl ⟨by rfl, ?yq112⟩) (by assumption) ?rq112
      case yq112 => (intro wS hSw; (try dsimp only at hSw); have q0 := l0 wS hSw; have q1 := l1 wS hSw; have q2 := l2 wS hSw; have q3 := l3 wS hSw; have q4 := l4 wS hSw; go_simp <;> with_reducible rfl)
      simp only [Act.put, List.setIfInBounds_toArray, List.set_cons_zero, List.set_cons_succ]
      refine wpAnyH_ready (rs := [29]) (by as_aux_lemma => kernel_rfl) (by simp) ?_
      refine AllReadyH.cons (o := { dst := some 45, op := Op.call { callee := Callee.value (Operand.func 15), args := #[Operand.tmp 43, Operand.tmp 44], argTypes := #[27, 22] }, type := 22, pos := "law.go:28", after := #[{ on := 27, ground := Ground.data }, { on := 28, ground := Ground.data }, { on := 25, ground := Ground.chain }, { on := 25, ground := Ground.guard }], guard := some (25, true) }) rfl (fun K hK => ?_) (by exact AllReadyH.nil)
      rw [if_pos (by rfl)]
      go_simp
      refine (tjoin_any B a HA.out _ l (by have := HLB.out; omega) _ (HCS.out _ hS20)).mono ?_
      rintro e u29 ⟨g29, rfl, hg29, hb29, hu29⟩
      have hS29 := rstep hu29 hS20
      refine hK.out _ _ (by (try dsimp only); (first | exact hS51 | exact hS47 | exact hS45 | exact hS41 | exact hS40 | exact hS38 | exact hS34 | exact hS33 | exact hS29 | exact hS20 | exact hS14 | exact hS11 | exact hS8 | exact hS7 | exact hS3)) (fun hHeld => ?_)
      clear hK K
      simp only [List.setIfInBounds_toArray, List.set_cons_zero, List.set_cons_succ]
      refine wpAnyH_ready (rs := [33]) (by as_aux_lemma => kernel_rfl) (by simp) ?_
      refine AllReadyH.cons (o := { dst := some 49, op := Op.call { callee := Callee.value (Operand.func 16), args := #[Operand.tmp 47, Operand.tmp 48], argTypes := #[27, 22] }, type := 22, pos := "law.go:28", after := #[{ on := 31, ground := Ground.data }, { on := 32, ground := Ground.data }, { on := 29, ground := Ground.chain }, { on := 25, ground := Ground.guard }], guard := some (25, true) }) rfl (fun K hK => ?_) (by exact AllReadyH.nil)
      rw [if_pos (by rfl)]
      go_simp
      refine (rtjoin_any B a HA.out _ l (by have := HLB.out; omega) _ (HCS.out _ hS29)).mono ?_
      rintro e u33 ⟨v33, rfl, hv33, hu33⟩
      obtain ⟨y33, c33, rfl⟩ := hv33.is
      simp only [List.length_map] at hv33
      have hS33 := rstep hu33 hS29
      refine hK.out _ _ (by (try dsimp only); (first | exact hS51 | exact hS47 | exact hS45 | exact hS41 | exact hS40 | exact hS38 | exact hS34 | exact hS33 | exact hS29 | exact hS20 | exact hS14 | exact hS11 | exact hS8 | exact hS7 | exact hS3)) (fun hHeld => ?_)
      clear hK K
      simp only [List.setIfInBounds_toArray, List.set_cons_zero, List.set_cons_succ]
      refine wpAnyH_ready (rs := [34]) (by as_aux_lemma => kernel_rfl) (by simp) ?_
      refine AllReadyH.cons (o := { dst := some 50, op := Op.call { callee := Callee.value (Operand.func 8), args := #[Operand.tmp 45, Operand.tmp 49], argTypes := #[22, 22] }, type := 4, pos := "law.go:28", after := #[{ on := 29, ground := Ground.data }, { on := 33, ground := Ground.data }, { on := 33, ground := Ground.chain }, { on := 25, ground := Ground.guard }], guard := some (25, true) }) rfl (fun K hK => ?_) (by exact AllReadyH.nil)
      rw [if_pos (by rfl)]
      go_simp
      refine (equal_same (List.length_map ..) (by have := HLB.out; omega) HOJ.out (hb29.keep hu33) (by have h9 := hv33; rw [HJJ.out] at h9; exact h9)).mono ?_
      rintro e u34 ⟨rfl, hu34⟩
      have hS34 := rstep hu34 hS33
      clear hb29 hg29 hu29 hv33 hu33 hu34
      refine hK.out _ _ (by (try dsimp only); (first | exact hS51 | exact hS47 | exact hS45 | exact hS41 | exact hS40 | exact hS38 | exact hS34 | exact hS33 | exact hS29 | exact hS20 | exact hS14 | exact hS11 | exact hS8 | exact hS7 | exact hS3)) (fun hHeld => ?_)
      clear hK K
      simp only [List.setIfInBounds_toArray, List.set_cons_zero, List.set_cons_succ]
      refine wpAnyH_take (i := 35) (oi := { dst := some 51, op := Op.pick (Operand.tmp 41) (Operand.tmp 50) (Operand.const (Value.bool false)), type := 4, pos := "law.go:28", after := #[{ on := 25, ground := Ground.data }, { on := 34, ground := Ground.data }], guard := none }) (v := ?vq116) rfl (by as_aux_lemma => kernel_rfl) (by as_aux_lemma => kernel_rfl) (by as_aux_lemma => kernel_rfl) (fun _ _ _ h => h) (Or.inl ⟨by rfl, ?yq116⟩) (by assumption) ?rq116
      case yq116 => (intro wS hSw; (try dsimp only at hSw); have q0 := l0 wS hSw; have q1 := l1 wS hSw; have q2 := l2 wS hSw; have q3 := l3 wS hSw; have q4 := l4 wS hSw; go_simp <;> with_reducible rfl)
      simp only [Act.put, List.setIfInBounds_toArray, List.set_cons_zero, List.set_cons_succ]
      refine wpAnyH_take (i := 36) (oi := { dst := some 52, op := Op.move (Operand.tmp 51), type := 4, pos := "law.go:28", after := #[{ on := 35, ground := Ground.data }, { on := 34, ground := Ground.chain }], guard := none }) (v := ?vq117) rfl (by as_aux_lemma => kernel_rfl) (by as_aux_lemma => kernel_rfl) (by as_aux_lemma => kernel_rfl) (fun _ _ _ h => h) (Or.inl ⟨by rfl, ?yq117⟩) (by assumption) ?rq117
      case yq117 => (intro wS hSw; (try dsimp only at hSw); have q0 := l0 wS hSw; have q1 := l1 wS hSw; have q2 := l2 wS hSw; have q3 := l3 wS hSw; have q4 := l4 wS hSw; go_simp <;> with_reducible rfl)
      simp only [Act.put, List.setIfInBounds_toArray, List.set_cons_zero, List.set_cons_succ]
      refine wpAnyH_take (i := 37) (oi := { dst := some 53, op := Op.load 29 (Operand.tmp 5), type := 29, pos := "law.go:28", after := #[{ on := 36, ground := Ground.guard }], guard := some (36, true) }) (v := ?vq118) rfl (by as_aux_lemma => kernel_rfl) (by as_aux_lemma => kernel_rfl) (by as_aux_lemma => kernel_rfl) (fun _ _ _ h => h) (Or.inl ⟨by rfl, ?yq118⟩) (by assumption) ?rq118
      case yq118 => (intro wS hSw; (try dsimp only at hSw); have q0 := l0 wS hSw; have q1 := l1 wS hSw; have q2 := l2 wS hSw; have q3 := l3 wS hSw; have q4 := l4 wS hSw; go_simp <;> with_reducible rfl)
      simp only [Act.put, List.setIfInBounds_toArray, List.set_cons_zero, List.set_cons_succ]
      refine wpAnyH_take (i := 39) (oi := { dst := some 55, op := Op.load 29 (Operand.tmp 5), type := 29, pos := "law.go:28", after := #[{ on := 36, ground := Ground.guard }], guard := some (36, true) }) (v := ?vq119) rfl (by as_aux_lemma => kernel_rfl) (by as_aux_lemma => kernel_rfl) (by as_aux_lemma => kernel_rfl) (fun _ _ _ h => h) (Or.inl ⟨by rfl, ?yq119⟩) (by assumption) ?rq119
      case yq119 => (intro wS hSw; (try dsimp only at hSw); have q0 := l0 wS hSw; have q1 := l1 wS hSw; have q2 := l2 wS hSw; have q3 := l3 wS hSw; have q4 := l4 wS hSw; go_simp <;> with_reducible rfl)
      simp only [Act.put, List.setIfInBounds_toArray, List.set_cons_zero, List.set_cons_succ]
      refine wpAnyH_ready (rs := [38]) (by as_aux_lemma => kernel_rfl) (by simp) ?_
      refine AllReadyH.cons (o := { dst := some 54, op := Op.call { callee := Callee.value (Operand.func 17), args := #[Operand.tmp 53], argTypes := #[29] }, type := 22, pos := "law.go:28", after := #[{ on := 37, ground := Ground.data }, { on := 36, ground := Ground.chain }, { on := 36, ground := Ground.guard }], guard := some (36, true) }) rfl (fun K hK => ?_) (by exact AllReadyH.nil)
      rw [if_pos (by rfl)]
      go_simp
      refine (tcells_any n a HA.out _).mono ?_
      rintro e u38 ⟨g38, rfl, hg38, hb38, hu38⟩
      have hS38 := rstep hu38 hS34
      refine hK.out _ _ (by (try dsimp only); (first | exact hS51 | exact hS47 | exact hS45 | exact hS41 | exact hS40 | exact hS38 | exact hS34 | exact hS33 | exact hS29 | exact hS20 | exact hS14 | exact hS11 | exact hS8 | exact hS7 | exact hS3)) (fun hHeld => ?_)
      clear hK K
      simp only [List.setIfInBounds_toArray, List.set_cons_zero, List.set_cons_succ]
      refine wpAnyH_ready (rs := [40]) (by as_aux_lemma => kernel_rfl) (by simp) ?_
      refine AllReadyH.cons (o := { dst := some 56, op := Op.call { callee := Callee.value (Operand.func 18), args := #[Operand.tmp 55], argTypes := #[29] }, type := 22, pos := "law.go:28", after := #[{ on := 39, ground := Ground.data }, { on := 38, ground := Ground.chain }, { on := 36, ground := Ground.guard }], guard := some (36, true) }) rfl (fun K hK => ?_) (by exact AllReadyH.nil)
      rw [if_pos (by rfl)]
      go_simp
      refine (rtcells_any n a HA.out _).mono ?_
      rintro e u40 ⟨v40, rfl, hv40, hu40⟩
      obtain ⟨y40, c40, rfl⟩ := hv40.is
      have hS40 := rstep hu40 hS38
      refine hK.out _ _ (by (try dsimp only); (first | exact hS51 | exact hS47 | exact hS45 | exact hS41 | exact hS40 | exact hS38 | exact hS34 | exact hS33 | exact hS29 | exact hS20 | exact hS14 | exact hS11 | exact hS8 | exact hS7 | exact hS3)) (fun hHeld => ?_)
      clear hK K
      simp only [List.setIfInBounds_toArray, List.set_cons_zero, List.set_cons_succ]
      refine wpAnyH_ready (rs := [41]) (by as_aux_lemma => kernel_rfl) (by simp) ?_
      refine AllReadyH.cons (o := { dst := some 57, op := Op.call { callee := Callee.value (Operand.func 8), args := #[Operand.tmp 54, Operand.tmp 56], argTypes := #[22, 22] }, type := 4, pos := "law.go:28", after := #[{ on := 38, ground := Ground.data }, { on := 40, ground := Ground.data }, { on := 40, ground := Ground.chain }, { on := 36, ground := Ground.guard }], guard := some (36, true) }) rfl (fun K hK => ?_) (by exact AllReadyH.nil)
      rw [if_pos (by rfl)]
      go_simp
      refine (equal_same (ceL_len n a) (by omega) (ceL_ok n a HA.out) (hb38.keep hu40) hv40).mono ?_
      rintro e u41 ⟨rfl, hu41⟩
      have hS41 := rstep hu41 hS40
      clear hb38 hg38 hu38 hv40 hu40 hu41
      refine hK.out _ _ (by (try dsimp only); (first | exact hS51 | exact hS47 | exact hS45 | exact hS41 | exact hS40 | exact hS38 | exact hS34 | exact hS33 | exact hS29 | exact hS20 | exact hS14 | exact hS11 | exact hS8 | exact hS7 | exact hS3)) (fun hHeld => ?_)
      clear hK K
      simp only [List.setIfInBounds_toArray, List.set_cons_zero, List.set_cons_succ]
      refine wpAnyH_take (i := 42) (oi := { dst := some 58, op := Op.pick (Operand.tmp 52) (Operand.tmp 57) (Operand.const (Value.bool false)), type := 4, pos := "law.go:28", after := #[{ on := 36, ground := Ground.data }, { on := 41, ground := Ground.data }], guard := none }) (v := ?vq123) rfl (by as_aux_lemma => kernel_rfl) (by as_aux_lemma => kernel_rfl) (by as_aux_lemma => kernel_rfl) (fun _ _ _ h => h) (Or.inl ⟨by rfl, ?yq123⟩) (by assumption) ?rq123
      case yq123 => (intro wS hSw; (try dsimp only at hSw); have q0 := l0 wS hSw; have q1 := l1 wS hSw; have q2 := l2 wS hSw; have q3 := l3 wS hSw; have q4 := l4 wS hSw; go_simp <;> with_reducible rfl)
      simp only [Act.put, List.setIfInBounds_toArray, List.set_cons_zero, List.set_cons_succ]
      refine wpAnyH_take (i := 43) (oi := { dst := some 59, op := Op.move (Operand.tmp 58), type := 4, pos := "law.go:28", after := #[{ on := 42, ground := Ground.data }, { on := 41, ground := Ground.chain }], guard := none }) (v := ?vq124) rfl (by as_aux_lemma => kernel_rfl) (by as_aux_lemma => kernel_rfl) (by as_aux_lemma => kernel_rfl) (fun _ _ _ h => h) (Or.inl ⟨by rfl, ?yq124⟩) (by assumption) ?rq124
      case yq124 => (intro wS hSw; (try dsimp only at hSw); have q0 := l0 wS hSw; have q1 := l1 wS hSw; have q2 := l2 wS hSw; have q3 := l3 wS hSw; have q4 := l4 wS hSw; go_simp <;> with_reducible rfl)
      simp only [Act.put, List.setIfInBounds_toArray, List.set_cons_zero, List.set_cons_succ]
      refine wpAnyH_take (i := 44) (oi := { dst := some 60, op := Op.move (Operand.tmp 0), type := 22, pos := "law.go:28", after := #[{ on := 43, ground := Ground.guard }], guard := some (43, true) }) (v := ?vq125) rfl (by as_aux_lemma => kernel_rfl) (by as_aux_lemma => kernel_rfl) (by as_aux_lemma => kernel_rfl) (fun _ _ _ h => h) (Or.inl ⟨by rfl, ?yq125⟩) (by assumption) ?rq125
      case yq125 => (intro wS hSw; (try dsimp only at hSw); have q0 := l0 wS hSw; have q1 := l1 wS hSw; have q2 := l2 wS hSw; have q3 := l3 wS hSw; have q4 := l4 wS hSw; go_simp <;> with_reducible rfl)
      simp only [Act.put, List.setIfInBounds_toArray, List.set_cons_zero, List.set_cons_succ]
      refine wpAnyH_take (i := 46) (oi := { dst := some 62, op := Op.move (Operand.tmp 0), type := 22, pos := "law.go:28", after := #[{ on := 43, ground := Ground.guard }], guard := some (43, true) }) (v := ?vq126) rfl (by as_aux_lemma => kernel_rfl) (by as_aux_lemma => kernel_rfl) (by as_aux_lemma => kernel_rfl) (fun _ _ _ h => h) (Or.inl ⟨by rfl, ?yq126⟩) (by assumption) ?rq126
      case yq126 => (intro wS hSw; (try dsimp only at hSw); have q0 := l0 wS hSw; have q1 := l1 wS hSw; have q2 := l2 wS hSw; have q3 := l3 wS hSw; have q4 := l4 wS hSw; go_simp <;> with_reducible rfl)
      simp only [Act.put, List.setIfInBounds_toArray, List.set_cons_zero, List.set_cons_succ]
      refine wpAnyH_ready (rs := [45]) (by as_aux_lemma => kernel_rfl) (by simp) ?_
      refine AllReadyH.cons (o := { dst := some 61, op := Op.call { callee := Callee.value (Operand.func 19), args := #[Operand.tmp 60], argTypes := #[22] }, type := 29, pos := "law.go:28", after := #[{ on := 44, ground := Ground.data }, { on := 43, ground := Ground.chain }, { on := 43, ground := Ground.guard }], guard := some (43, true) }) rfl (fun K hK => ?_) (by exact AllReadyH.nil)
      rw [if_pos (by rfl)]
      go_simp
      refine (HT3.out _ hS41).mono ?_
      rintro e u45 ⟨rfl, hu45⟩
      have hS45 := rstep hu45 hS41
      refine hK.out _ _ (by (try dsimp only); (first | exact hS51 | exact hS47 | exact hS45 | exact hS41 | exact hS40 | exact hS38 | exact hS34 | exact hS33 | exact hS29 | exact hS20 | exact hS14 | exact hS11 | exact hS8 | exact hS7 | exact hS3)) (fun hHeld => ?_)
      clear hK K
      simp only [List.setIfInBounds_toArray, List.set_cons_zero, List.set_cons_succ]
      refine wpAnyH_ready (rs := [47]) (by as_aux_lemma => kernel_rfl) (by simp) ?_
      refine AllReadyH.cons (o := { dst := some 63, op := Op.call { callee := Callee.value (Operand.func 20), args := #[Operand.tmp 62], argTypes := #[22] }, type := 29, pos := "law.go:28", after := #[{ on := 46, ground := Ground.data }, { on := 45, ground := Ground.chain }, { on := 43, ground := Ground.guard }], guard := some (43, true) }) rfl (fun K hK => ?_) (by exact AllReadyH.nil)
      rw [if_pos (by rfl)]
      go_simp
      refine (HT4.out _ hS45).mono ?_
      rintro e u47 ⟨rfl, hu47⟩
      have hS47 := rstep hu47 hS45
      refine hK.out _ _ (by (try dsimp only); (first | exact hS51 | exact hS47 | exact hS45 | exact hS41 | exact hS40 | exact hS38 | exact hS34 | exact hS33 | exact hS29 | exact hS20 | exact hS14 | exact hS11 | exact hS8 | exact hS7 | exact hS3)) (fun hHeld => ?_)
      clear hK K
      simp only [List.setIfInBounds_toArray, List.set_cons_zero, List.set_cons_succ]
      refine wpAnyH_take (i := 48) (oi := { dst := some 64, op := Op.binOp BinOp.eql 29 (Operand.tmp 61) (Operand.tmp 63) 29, type := 4, pos := "law.go:28", after := #[{ on := 45, ground := Ground.data }, { on := 47, ground := Ground.data }, { on := 43, ground := Ground.guard }], guard := some (43, true) }) (v := ?vq129) rfl (by as_aux_lemma => kernel_rfl) (by as_aux_lemma => kernel_rfl) (by as_aux_lemma => kernel_rfl) (fun _ _ _ h => h) (Or.inl ⟨by rfl, ?yq129⟩) (by assumption) ?rq129
      case yq129 => (intro wS hSw; (try dsimp only at hSw); have q0 := l0 wS hSw; have q1 := l1 wS hSw; have q2 := l2 wS hSw; have q3 := l3 wS hSw; have q4 := l4 wS hSw; go_simp <;> with_reducible rfl)
      simp only [Act.put, List.setIfInBounds_toArray, List.set_cons_zero, List.set_cons_succ]
      refine wpAnyH_take (i := 49) (oi := { dst := some 65, op := Op.pick (Operand.tmp 59) (Operand.tmp 64) (Operand.const (Value.bool false)), type := 4, pos := "law.go:28", after := #[{ on := 43, ground := Ground.data }, { on := 48, ground := Ground.data }], guard := none }) (v := ?vq130) rfl (by as_aux_lemma => kernel_rfl) (by as_aux_lemma => kernel_rfl) (by as_aux_lemma => kernel_rfl) (fun _ _ _ h => h) (Or.inl ⟨by rfl, ?yq130⟩) (by assumption) ?rq130
      case yq130 => (intro wS hSw; (try dsimp only at hSw); have q0 := l0 wS hSw; have q1 := l1 wS hSw; have q2 := l2 wS hSw; have q3 := l3 wS hSw; have q4 := l4 wS hSw; go_simp <;> with_reducible rfl)
      simp only [Act.put, List.setIfInBounds_toArray, List.set_cons_zero, List.set_cons_succ]
      refine wpAnyH_take (i := 50) (oi := { dst := some 66, op := Op.move (Operand.tmp 65), type := 4, pos := "law.go:28", after := #[{ on := 49, ground := Ground.data }, { on := 47, ground := Ground.chain }], guard := none }) (v := ?vq131) rfl (by as_aux_lemma => kernel_rfl) (by as_aux_lemma => kernel_rfl) (by as_aux_lemma => kernel_rfl) (fun _ _ _ h => h) (Or.inl ⟨by rfl, ?yq131⟩) (by assumption) ?rq131
      case yq131 => (intro wS hSw; (try dsimp only at hSw); have q0 := l0 wS hSw; have q1 := l1 wS hSw; have q2 := l2 wS hSw; have q3 := l3 wS hSw; have q4 := l4 wS hSw; go_simp <;> with_reducible rfl)
      simp only [Act.put, List.setIfInBounds_toArray, List.set_cons_zero, List.set_cons_succ]
      refine wpAnyH_ready (rs := [51]) (by as_aux_lemma => kernel_rfl) (by simp) ?_
      refine AllReadyH.cons (o := { dst := some 67, op := Op.call { callee := Callee.value (Operand.func 7), args := #[], argTypes := #[] }, type := 4, pos := "law.go:28", after := #[{ on := 50, ground := Ground.chain }, { on := 50, ground := Ground.guard }], guard := some (50, true) }) rfl (fun K hK => ?_) (by exact AllReadyH.nil)
      rw [if_pos (by rfl)]
      go_simp
      refine (tworks_any _).mono ?_
      rintro e u51 ⟨rfl, hu51⟩
      have hS51 := rstep hu51 hS47
      refine hK.out _ _ (by (try dsimp only); (first | exact hS51 | exact hS47 | exact hS45 | exact hS41 | exact hS40 | exact hS38 | exact hS34 | exact hS33 | exact hS29 | exact hS20 | exact hS14 | exact hS11 | exact hS8 | exact hS7 | exact hS3)) (fun hHeld => ?_)
      clear hK K
      simp only [List.setIfInBounds_toArray, List.set_cons_zero, List.set_cons_succ]
      refine wpAnyH_take (i := 52) (oi := { dst := some 68, op := Op.pick (Operand.tmp 66) (Operand.tmp 67) (Operand.const (Value.bool false)), type := 4, pos := "law.go:28", after := #[{ on := 50, ground := Ground.data }, { on := 51, ground := Ground.data }], guard := none }) (v := ?vq133) rfl (by as_aux_lemma => kernel_rfl) (by as_aux_lemma => kernel_rfl) (by as_aux_lemma => kernel_rfl) (fun _ _ _ h => h) (Or.inl ⟨by rfl, ?yq133⟩) (by assumption) ?rq133
      case yq133 => (intro wS hSw; (try dsimp only at hSw); have q0 := l0 wS hSw; have q1 := l1 wS hSw; have q2 := l2 wS hSw; have q3 := l3 wS hSw; have q4 := l4 wS hSw; go_simp <;> with_reducible rfl)
      simp only [Act.put, List.setIfInBounds_toArray, List.set_cons_zero, List.set_cons_succ]
      refine wpAnyH_take (i := 53) (oi := { dst := some 6, op := Op.assign (Operand.tmp 68), type := 4, pos := "law.go:28", after := #[{ on := 52, ground := Ground.data }, { on := 51, ground := Ground.chain }, { on := 0, ground := Ground.phase }, { on := 1, ground := Ground.phase }, { on := 2, ground := Ground.phase }, { on := 3, ground := Ground.phase }, { on := 4, ground := Ground.phase }, { on := 5, ground := Ground.phase }, { on := 6, ground := Ground.phase }, { on := 7, ground := Ground.phase }, { on := 8, ground := Ground.phase }, { on := 9, ground := Ground.phase }, { on := 10, ground := Ground.phase }, { on := 11, ground := Ground.phase }, { on := 12, ground := Ground.phase }, { on := 13, ground := Ground.phase }, { on := 14, ground := Ground.phase }, { on := 15, ground := Ground.phase }, { on := 16, ground := Ground.phase }, { on := 17, ground := Ground.phase }, { on := 18, ground := Ground.phase }, { on := 19, ground := Ground.phase }, { on := 20, ground := Ground.phase }, { on := 21, ground := Ground.phase }, { on := 22, ground := Ground.phase }, { on := 23, ground := Ground.phase }, { on := 24, ground := Ground.phase }, { on := 25, ground := Ground.phase }, { on := 26, ground := Ground.phase }, { on := 27, ground := Ground.phase }, { on := 28, ground := Ground.phase }, { on := 29, ground := Ground.phase }, { on := 30, ground := Ground.phase }, { on := 31, ground := Ground.phase }, { on := 32, ground := Ground.phase }, { on := 33, ground := Ground.phase }, { on := 34, ground := Ground.phase }, { on := 35, ground := Ground.phase }, { on := 36, ground := Ground.phase }, { on := 37, ground := Ground.phase }, { on := 38, ground := Ground.phase }, { on := 39, ground := Ground.phase }, { on := 40, ground := Ground.phase }, { on := 41, ground := Ground.phase }, { on := 42, ground := Ground.phase }, { on := 43, ground := Ground.phase }, { on := 44, ground := Ground.phase }, { on := 45, ground := Ground.phase }, { on := 46, ground := Ground.phase }, { on := 47, ground := Ground.phase }, { on := 48, ground := Ground.phase }, { on := 49, ground := Ground.phase }, { on := 50, ground := Ground.phase }, { on := 51, ground := Ground.phase }, { on := 52, ground := Ground.phase }], guard := none }) (v := ?vq134) rfl (by as_aux_lemma => kernel_rfl) (by as_aux_lemma => kernel_rfl) (by as_aux_lemma => kernel_rfl) (fun _ _ _ h => h) (Or.inl ⟨by rfl, ?yq134⟩) (by assumption) ?rq134
      case yq134 => (intro wS hSw; (try dsimp only at hSw); have q0 := l0 wS hSw; have q1 := l1 wS hSw; have q2 := l2 wS hSw; have q3 := l3 wS hSw; have q4 := l4 wS hSw; go_simp <;> with_reducible rfl)
      simp only [Act.put, List.setIfInBounds_toArray, List.set_cons_zero, List.set_cons_succ]
      refine wpAnyH_done (by as_aux_lemma => kernel_rfl) ?_ _
      go_wp2_with fail
      go_ret
      exact ⟨rfl, bstep HV.out hS51⟩
end Go.Proofs.Ytkhdjlahfbmkoaa
