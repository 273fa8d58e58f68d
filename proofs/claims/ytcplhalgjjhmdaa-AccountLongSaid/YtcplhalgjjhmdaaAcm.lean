/- account: AccountLong's walk. -/
import Derived.Test.YtcplhalgjjhmdaaAcl
namespace Go.Proofs.Ytcplhalgjjhmdaa
open Go.RowKit Go.Shelf Go.ChangeMaps Go.MapKept

theorem made_u8 (n : Nat) : madeCells (Value.int .u8 0).cells (n * 1) = (bvs (List.replicate n 0)).toArray := by
  apply Array.ext_getElem?
  intro i
  unfold madeCells bvs
  by_cases hi : i < n <;> simp [Value.cells, Nat.mod_one, hi]
theorem make_bytes (n : Nat) (hn : n ≤ 1000000) (w : World) : (Instr.makeSlice 30 (.int .i64 n) (.int .i64 n)).run Try.prog w = .ok (.slice (some ⟨w.heap.size, 0, none⟩) n n) (w.alloc (.cells (bvs (List.replicate n 0)).toArray 5)) := by
  obtain ⟨i, hi, hz, hs, hb⟩ := info_parts' infoU8
  have h := run_makeSlice (P := Try.prog) (w := w) 30 5 i (.int .u8 0) (by kernel_rfl) hi hz .i64 .i64 n n (by omega) (by omega) (by rw [hs]; omega) (by rw [hb]; omega) (by omega)
  rw [hs, Int.toNat_natCast, made_u8] at h
  exact h
theorem bto_rep (N g : Nat) (RB : Array Value) (hR : (bvs (List.replicate N 0)).toArray = RB) {Z : World} (hg : Blk Z g 5 RB) (hN : N ≤ 1000000) : Bto Z.heap.size Z (.slice (some ⟨g, 0, none⟩) N N) (List.replicate N 0) := by
  refine ⟨fun x hx => by rw [List.eq_of_mem_replicate hx]; omega, some ⟨g, 0, none⟩, N, by rw [List.length_replicate], by rw [List.length_replicate]; exact Nat.le_refl _, by rw [List.length_replicate]; omega, fun _ => ⟨g, 0, rfl, hg.lt, hg.lt, fun k u hu => ?_⟩⟩
  rw [Nat.zero_add, cell_of_row _ _ k _ _ _ hg, ← hR, List.getElem?_toArray, bvs_get, hu]
  rfl
theorem fld2 (v : Nat × Nat) (n : Nat) (c : Value) (w : World) : (Instr.field 38 (.agg (acC v n c)) 2).run Try.prog w = .ok c w := by kernel_rfl
set_option maxRecDepth 100000 in
set_option maxHeartbeats 4000000 in
theorem aput_long (p b : Nat) (a : List Nat) (v : Nat × Nat) (n : Nat) (x : Option Addr) (N cap : Nat) (w : World) (h : Blk w p 67 #[.map (some b)]) (hl : 49152 < N) :
    Calls Try.prog 7 #[.pointer (some ⟨p, 0, none⟩), .agg (adC a), .agg (acC v n (.slice x N cap))] w fun e w' => e = .returned (.int .i64 3) ∧ Below w.heap.size w w' := by
  obtain ⟨X, hX⟩ : ∃ X, (w.alloc (.cells (adC a) 28)).alloc (.cells (acC v n (.slice x N cap)) 38) = X := ⟨_, rfl⟩
  have b2 : Blk X (w.heap.size + 1) 38 (acC v n (.slice x N cap)) := by rw [← hX]; exact Blk.newS w _ _ _
  have hW : Below w.heap.size w X := by rw [← hX]; exact balloc (balloc (Below.refl _ _) _) _
  have hle : (49152 : Int) < (N : Int) := by omega
  have HN := Lib.hid (anone_not p b X (h.keep hW))
  have HX := Lib.hid (And.intro hX hW)
  have c6 : X.cell? ⟨w.heap.size + 1, 6, none⟩ = some (.slice x N cap) := cell_of_row _ _ 6 _ _ _ b2
  clear hX b2 hW hl h
  go_enter Try.func7, Try.ntmps7
  go_wp2_with fail
  rw [HX.out.1]
  refine wp_scope_jumps 0 (fun _ _ => False) (fun _ _ => 0) rfl ?first ?pass
  case pass => intro a w h; exact h.elim
  case first =>
    go_wp2_with (first | (go_at_call 22; refine (HN.out).mono ?_; rintro e w1 ⟨rfl, rfl⟩) | fail)
    (try simp only [Exit.jump])
    go_ret
    exact ⟨rfl, HX.out.2⟩
set_option maxRecDepth 100000 in
set_option maxHeartbeats 8000000 in
theorem along_walk (z : Int) (hz : -9223372036854775808 ≤ z ∧ z < 9223372036854775808) (w : World) : Calls Try.prog 3 #[.int .i64 z] w fun e w' => e = .returned (.bool true) ∧ Below w.heap.size w w' := by
  by_cases h1 : z < -1
  · have hd : decide (z < -1) = true := decide_eq_true h1
    go_enter Try.func3, Try.ntmps3
    go_wp2_with (first | (go_at_call 5; refine (aworks_any _).mono ?_; rintro e wz ⟨rfl, hwz⟩) | with_reducible refine And.intro (fun f h => (by cases h)) ?_ | fail)
    go_ret
    exact ⟨rfl, hwz⟩
  by_cases h2 : 1 < z
  · have hd : decide (z < -1) = false := decide_eq_false h1
    have hd2 : decide (1 < z) = true := decide_eq_true h2
    go_enter Try.func3, Try.ntmps3
    go_wp2_with (first | (go_at_call 5; refine (aworks_any _).mono ?_; rintro e wz ⟨rfl, hwz⟩) | fail)
    go_ret
    exact ⟨rfl, hwz⟩
  have hd : decide (z < -1) = false := decide_eq_false h1
  have hd2 : decide (1 < z) = false := decide_eq_false h2
  obtain ⟨N, hN⟩ : ∃ N : Nat, (49152 : Int) + z = (N : Int) := ⟨((49152 : Int) + z).toNat, by omega⟩
  have hwr : IntKind.i64.wrap ((49152 : Int) + z) = (N : Int) := by rw [hN]; exact IntWalk.i64_in _ (by omega)
  have hmk := fun Z => make_bytes N (by omega) Z
  obtain ⟨RB, hRB⟩ : ∃ R, (bvs (List.replicate N 0)).toArray = R := ⟨_, rfl⟩
  rw [hRB] at hmk
  have HRB := Lib.hid hRB
  have HZ := Lib.hid (And.intro h1 (And.intro h2 hN))
  clear h1 h2 hN hRB hz
  go_enter Try.func3, Try.ntmps3
  go_upto_region 4 with (first | (go_at_call 6; refine (anew_any w).mono ?_; rintro e X ⟨p, b, rfl, hp, hm, hp1, hb1, hpb, hz1⟩) | fail)
  have HM := Lib.hid (show AcM X p b (fun _ => none) from ⟨hp, hm⟩)
  have HW := Lib.hid (And.intro hz1 (And.intro hp1 hb1))
  have hS0 : Below X.heap.size X X.drew := below_drew' (Below.refl _ _)
  clear hp hm hp1 hb1 hpb hz1
  have hNN : ((N : Int) == (N : Int)) = true := by simp
  have hf2 := fld2
  by_cases h3 : 0 < z
  · have hd3 : decide (0 < z) = true := decide_eq_true h3
    have HP := Lib.hid (fun Z g (hZ : Below X.heap.size X Z) => (by have h := aput_long p b (aofL 1) (0, 0) 0 (some ⟨g, 0, none⟩) N N Z (HM.out.1.keep hZ) (by have := HZ.out.2.2; omega); simp only [acC, lb0] at h; exact h : Calls Try.prog 7 #[.pointer (some ⟨p, 0, none⟩), .agg (adC (aofL 1)), .agg #[.int .u64 0, .int .u64 0, .int .u64 0, .int .u64 0, .int .u64 0, .int .u64 0, .slice (some ⟨g, 0, none⟩) N N]] Z fun e w' => e = .returned (.int .i64 3) ∧ Below Z.heap.size Z w'))
    have HGE := Lib.hid (fun Z (hZ : Below X.heap.size X Z) => aget_any p b _ (aofL 1) (aofL_ad (by decide)) Z (HM.out.keep hZ))
    clear h3
    have hHd : (fun w' => Chg (fun k => k = b) X w') X.drew := Chg.new hS0
    refine wp_noPanicG ?_
    refine wp_region_held_drew (S := fun w' => Chg (fun k => k = b) X w') (by as_aux_lemma => kernel_rfl) hHd (fun hHeld => ?_)
    simp only [List.size_toArray, List.length_cons, List.length_nil, Nat.reduceAdd, Array.replicate_succ, Array.replicate_zero, List.push_toArray, List.nil_append, List.cons_append]
    obtain ⟨wd, hwd⟩ : ∃ Z, X.drew = Z := ⟨_, rfl⟩
    rw [hwd] at hS0 hHeld ⊢
    clear hHd hwd
    refine wpAnyH_take (i := 0) (oi := { dst := some 13, op := Op.move (Operand.tmp 3), type := 23, pos := "law.go:160", after := #[], guard := none }) (v := ?vq0B) rfl (by as_aux_lemma => kernel_rfl) (by as_aux_lemma => kernel_rfl) (by as_aux_lemma => kernel_rfl) (fun _ _ _ h => h) (Or.inl ⟨by rfl, ?yq0B⟩) (by assumption) ?rq0B
    case yq0B => (intro w hSw; (try dsimp only at hSw); go_simp <;> with_reducible rfl)
    simp only [Act.put, List.setIfInBounds_toArray, List.set_cons_zero, List.set_cons_succ]
    refine wpAnyH_take (i := 2) (oi := { dst := some 15, op := Op.move (Operand.tmp 0), type := 3, pos := "law.go:160", after := #[], guard := none }) (v := ?vq1B) rfl (by as_aux_lemma => kernel_rfl) (by as_aux_lemma => kernel_rfl) (by as_aux_lemma => kernel_rfl) (fun _ _ _ h => h) (Or.inl ⟨by rfl, ?yq1B⟩) (by assumption) ?rq1B
    case yq1B => (intro w hSw; (try dsimp only at hSw); go_simp <;> with_reducible rfl)
    simp only [Act.put, List.setIfInBounds_toArray, List.set_cons_zero, List.set_cons_succ]
    refine wpAnyH_take (i := 3) (oi := { dst := some 16, op := Op.binOp BinOp.add 3 (Operand.const (Value.int IntKind.i64 49152)) (Operand.tmp 15) 3, type := 3, pos := "law.go:160", after := #[{ on := 2, ground := Ground.data }], guard := none }) (v := ?vq2B) rfl (by as_aux_lemma => kernel_rfl) (by as_aux_lemma => kernel_rfl) (by as_aux_lemma => kernel_rfl) (fun _ _ _ h => h) (Or.inl ⟨by rfl, ?yq2B⟩) (by assumption) ?rq2B
    case yq2B => (intro w hSw; (try dsimp only at hSw); go_simp <;> with_reducible rfl)
    simp only [Act.put, List.setIfInBounds_toArray, List.set_cons_zero, List.set_cons_succ]
    refine wpAnyH_ready (rs := [1, 4]) (by as_aux_lemma => kernel_rfl) (by simp) ?_
    refine AllReadyH.cons (o := { dst := some 14, op := Op.call { callee := Callee.value (Operand.func 8), args := #[Operand.const (Value.int IntKind.u8 1)], argTypes := #[5] }, type := 28, pos := "law.go:160", after := #[], guard := none }) rfl (fun K hK => ?_) ?_
    · rw [if_pos (by rfl)]
      go_simp
      (go_at_call 8; refine (ao1 _).mono ?_; rintro e z3 ⟨rfl, hz3⟩)
      have hSz3 : Below X.heap.size X z3 := rstep hz3 hS0
      refine hK.out _ _ (by (try dsimp only); exact Chg.new hSz3) (fun hHeld => ?_)
      clear hK K
      simp only [List.setIfInBounds_toArray, List.set_cons_zero, List.set_cons_succ]
      refine wpAnyH_ready (rs := [4]) (by as_aux_lemma => kernel_rfl) (by simp) ?_
      refine AllReadyH.cons (o := { dst := some 17, op := Op.makeSlice 30 (Operand.tmp 16) (Operand.tmp 16), type := 30, pos := "law.go:160", after := #[{ on := 3, ground := Ground.data }, { on := 3, ground := Ground.data }], guard := none }) rfl (fun K hK => ?_) (by exact AllReadyH.nil)
      rw [if_pos (by rfl)]
      go_simp
      obtain ⟨y4, hy4⟩ : ∃ y, (z3).alloc (.cells RB 5) = y := ⟨_, rfl⟩
      have hby4 : Blk y4 (z3).heap.size 5 RB := by rw [← hy4]; exact Blk.new _ _ _
      have hzy4 : Below (z3).heap.size (z3) y4 := by rw [← hy4]; exact balloc (Below.refl _ _) _
      have hSy4 : Below X.heap.size X y4 := rstep hzy4 hSz3
      obtain ⟨gy4, hgy4⟩ : ∃ g, (z3).heap.size = g := ⟨_, rfl⟩
      rw [hgy4] at hby4
      rw [hy4]
      rw [hgy4]
      refine hK.out _ _ (by (try dsimp only); exact Chg.new hSy4) (fun hHeld => ?_)
      clear hK K
      simp only [List.setIfInBounds_toArray, List.set_cons_zero, List.set_cons_succ]
      refine wpAnyH_take (i := 5) (oi := { dst := some 18, op := Op.build 38 #[(2, Operand.tmp 17)], type := 38, pos := "law.go:160", after := #[{ on := 4, ground := Ground.data }], guard := none }) (v := ?vq5B) rfl (by as_aux_lemma => kernel_rfl) (by as_aux_lemma => kernel_rfl) (by as_aux_lemma => kernel_rfl) (fun _ _ _ h => h) (Or.inl ⟨by rfl, ?yq5B⟩) (by assumption) ?rq5B
      case yq5B => (intro w hSw; (try dsimp only at hSw); go_simp <;> with_reducible rfl)
      simp only [Act.put, List.setIfInBounds_toArray, List.set_cons_zero, List.set_cons_succ]
      refine wpAnyH_ready (rs := [6]) (by as_aux_lemma => kernel_rfl) (by simp) ?_
      refine AllReadyH.cons (o := { dst := some 19, op := Op.call { callee := Callee.value (Operand.func 7), args := #[Operand.tmp 13, Operand.tmp 14, Operand.tmp 18], argTypes := #[23, 28, 38] }, type := 25, pos := "law.go:160", after := #[{ on := 0, ground := Ground.data }, { on := 1, ground := Ground.data }, { on := 5, ground := Ground.data }, { on := 1, ground := Ground.chain }], guard := none }) rfl (fun K hK => ?_) (by exact AllReadyH.nil)
      rw [if_pos (by rfl)]
      go_simp
      (go_at_call 7; refine (HP.out _ _ hSy4).mono ?_; rintro e z6 ⟨rfl, hz6⟩)
      have hSz6 : Below X.heap.size X z6 := rstep hz6 hSy4
      refine hK.out _ _ (by (try dsimp only); exact Chg.new hSz6) (fun hHeld => ?_)
      clear hK K
      simp only [List.setIfInBounds_toArray, List.set_cons_zero, List.set_cons_succ]
      refine wpAnyH_take (i := 7) (oi := { dst := some 4, op := Op.assign (Operand.tmp 19), type := 25, pos := "law.go:160", after := #[{ on := 6, ground := Ground.data }, { on := 6, ground := Ground.chain }, { on := 0, ground := Ground.phase }, { on := 1, ground := Ground.phase }, { on := 2, ground := Ground.phase }, { on := 3, ground := Ground.phase }, { on := 4, ground := Ground.phase }, { on := 5, ground := Ground.phase }, { on := 6, ground := Ground.phase }], guard := none }) (v := ?vq7B) rfl (by as_aux_lemma => kernel_rfl) (by as_aux_lemma => kernel_rfl) (by as_aux_lemma => kernel_rfl) (fun _ _ _ h => h) (Or.inl ⟨by rfl, ?yq7B⟩) (by assumption) ?rq7B
      case yq7B => (intro w hSw; (try dsimp only at hSw); go_simp <;> with_reducible rfl)
      simp only [Act.put, List.setIfInBounds_toArray, List.set_cons_zero, List.set_cons_succ]
      refine wpAnyH_done (by as_aux_lemma => kernel_rfl) ?_ _
      clear hHeld
      simp only [noPanicG]
      have HS := Lib.hid hSz6
      go_wp2_with (first
        | (go_at_call 5; refine (aworks_any _).mono ?_; rintro e y9 ⟨rfl, k9⟩)
        | (go_at_call 9; refine (anum_any _ _).mono ?_; rintro e zn ⟨rfl, rfl⟩)
        | (go_at_call 8; refine (ao1 _).mono ?_; rintro e y1 ⟨rfl, k1⟩)
        | (go_at_call 10; refine (HGE.out _ (bstep HS.out k1)).mono ?_; rintro e y2 ⟨c, rfl, hB, _, k2⟩; obtain ⟨x2, c2, hc2⟩ : ∃ x k, c = .slice x 0 k := (by obtain ⟨_, x, k, h, _⟩ := hB; exact ⟨x, k, h⟩); subst hc2; clear hB)
        | fail)
      go_ret
      exact ⟨rfl, HW.out.1.trans ((bstep (bstep (bstep HS.out k1) k2) k9).mono HW.out.1.size)⟩
    refine AllReadyH.cons (o := { dst := some 17, op := Op.makeSlice 30 (Operand.tmp 16) (Operand.tmp 16), type := 30, pos := "law.go:160", after := #[{ on := 3, ground := Ground.data }, { on := 3, ground := Ground.data }], guard := none }) rfl (fun K hK => ?_) (by exact AllReadyH.nil)
    rw [if_pos (by rfl)]
    go_simp
    obtain ⟨y8, hy8⟩ : ∃ y, (wd).alloc (.cells RB 5) = y := ⟨_, rfl⟩
    have hby8 : Blk y8 (wd).heap.size 5 RB := by rw [← hy8]; exact Blk.new _ _ _
    have hzy8 : Below (wd).heap.size (wd) y8 := by rw [← hy8]; exact balloc (Below.refl _ _) _
    have hSy8 : Below X.heap.size X y8 := rstep hzy8 hS0
    obtain ⟨gy8, hgy8⟩ : ∃ g, (wd).heap.size = g := ⟨_, rfl⟩
    rw [hgy8] at hby8
    rw [hy8]
    rw [hgy8]
    refine hK.out _ _ (by (try dsimp only); exact Chg.new hSy8) (fun hHeld => ?_)
    clear hK K
    simp only [List.setIfInBounds_toArray, List.set_cons_zero, List.set_cons_succ]
    refine wpAnyH_take (i := 5) (oi := { dst := some 18, op := Op.build 38 #[(2, Operand.tmp 17)], type := 38, pos := "law.go:160", after := #[{ on := 4, ground := Ground.data }], guard := none }) (v := ?vq9B) rfl (by as_aux_lemma => kernel_rfl) (by as_aux_lemma => kernel_rfl) (by as_aux_lemma => kernel_rfl) (fun _ _ _ h => h) (Or.inl ⟨by rfl, ?yq9B⟩) (by assumption) ?rq9B
    case yq9B => (intro w hSw; (try dsimp only at hSw); go_simp <;> with_reducible rfl)
    simp only [Act.put, List.setIfInBounds_toArray, List.set_cons_zero, List.set_cons_succ]
    refine wpAnyH_ready (rs := [1]) (by as_aux_lemma => kernel_rfl) (by simp) ?_
    refine AllReadyH.cons (o := { dst := some 14, op := Op.call { callee := Callee.value (Operand.func 8), args := #[Operand.const (Value.int IntKind.u8 1)], argTypes := #[5] }, type := 28, pos := "law.go:160", after := #[], guard := none }) rfl (fun K hK => ?_) (by exact AllReadyH.nil)
    rw [if_pos (by rfl)]
    go_simp
    (go_at_call 8; refine (ao1 _).mono ?_; rintro e z10 ⟨rfl, hz10⟩)
    have hSz10 : Below X.heap.size X z10 := rstep hz10 hSy8
    have hg_z10 := hby8.keep hz10
    refine hK.out _ _ (by (try dsimp only); exact Chg.new hSz10) (fun hHeld => ?_)
    clear hK K
    simp only [List.setIfInBounds_toArray, List.set_cons_zero, List.set_cons_succ]
    refine wpAnyH_ready (rs := [6]) (by as_aux_lemma => kernel_rfl) (by simp) ?_
    refine AllReadyH.cons (o := { dst := some 19, op := Op.call { callee := Callee.value (Operand.func 7), args := #[Operand.tmp 13, Operand.tmp 14, Operand.tmp 18], argTypes := #[23, 28, 38] }, type := 25, pos := "law.go:160", after := #[{ on := 0, ground := Ground.data }, { on := 1, ground := Ground.data }, { on := 5, ground := Ground.data }, { on := 1, ground := Ground.chain }], guard := none }) rfl (fun K hK => ?_) (by exact AllReadyH.nil)
    rw [if_pos (by rfl)]
    go_simp
    (go_at_call 7; refine (HP.out _ _ hSz10).mono ?_; rintro e z11 ⟨rfl, hz11⟩)
    have hSz11 : Below X.heap.size X z11 := rstep hz11 hSz10
    refine hK.out _ _ (by (try dsimp only); exact Chg.new hSz11) (fun hHeld => ?_)
    clear hK K
    simp only [List.setIfInBounds_toArray, List.set_cons_zero, List.set_cons_succ]
    refine wpAnyH_take (i := 7) (oi := { dst := some 4, op := Op.assign (Operand.tmp 19), type := 25, pos := "law.go:160", after := #[{ on := 6, ground := Ground.data }, { on := 6, ground := Ground.chain }, { on := 0, ground := Ground.phase }, { on := 1, ground := Ground.phase }, { on := 2, ground := Ground.phase }, { on := 3, ground := Ground.phase }, { on := 4, ground := Ground.phase }, { on := 5, ground := Ground.phase }, { on := 6, ground := Ground.phase }], guard := none }) (v := ?vq12B) rfl (by as_aux_lemma => kernel_rfl) (by as_aux_lemma => kernel_rfl) (by as_aux_lemma => kernel_rfl) (fun _ _ _ h => h) (Or.inl ⟨by rfl, ?yq12B⟩) (by assumption) ?rq12B
    case yq12B => (intro w hSw; (try dsimp only at hSw); go_simp <;> with_reducible rfl)
    simp only [Act.put, List.setIfInBounds_toArray, List.set_cons_zero, List.set_cons_succ]
    refine wpAnyH_done (by as_aux_lemma => kernel_rfl) ?_ _
    clear hHeld
    simp only [noPanicG]
    have HS := Lib.hid hSz11
    go_wp2_with (first
      | (go_at_call 5; refine (aworks_any _).mono ?_; rintro e y9 ⟨rfl, k9⟩)
      | (go_at_call 9; refine (anum_any _ _).mono ?_; rintro e zn ⟨rfl, rfl⟩)
      | (go_at_call 8; refine (ao1 _).mono ?_; rintro e y1 ⟨rfl, k1⟩)
      | (go_at_call 10; refine (HGE.out _ (bstep HS.out k1)).mono ?_; rintro e y2 ⟨c, rfl, hB, _, k2⟩; obtain ⟨x2, c2, hc2⟩ : ∃ x k, c = .slice x 0 k := (by obtain ⟨_, x, k, h, _⟩ := hB; exact ⟨x, k, h⟩); subst hc2; clear hB)
      | fail)
    go_ret
    exact ⟨rfl, HW.out.1.trans ((bstep (bstep (bstep HS.out k1) k2) k9).mono HW.out.1.size)⟩
  · have hd3 : decide (0 < z) = false := decide_eq_false h3
    have HP := Lib.hid (fun Z g (hZ : Below X.heap.size X Z) (hg : Blk Z g 5 RB) => (by have h := aput_any p b (fun _ => none) (aofL 1) (aofL_ad (by decide)) (0, 0) okP0 0 (by decide) (.slice (some ⟨g, 0, none⟩) N N) (List.replicate N 0) _ Z (HM.out.keep hZ) (bto_rep N g RB HRB.out hg (by have := HZ.out.2.2; omega)) (by rw [List.length_replicate]; have := HZ.out.2.2; omega); simp only [acC, lb0] at h; exact h : Calls Try.prog 7 #[.pointer (some ⟨p, 0, none⟩), .agg (adC (aofL 1)), .agg #[.int .u64 0, .int .u64 0, .int .u64 0, .int .u64 0, .int .u64 0, .int .u64 0, .slice (some ⟨g, 0, none⟩) N N]] Z fun e w' => e = .returned (.int .i64 0) ∧ AcM w' p b (gput (fun _ => none) (aofL 1) ((0, 0), 0, List.replicate N 0, none)) ∧ Chg (fun k => k = b) Z w'))
    clear h3
    have hHd : (fun w' => Chg (fun k => k = b) X w') X.drew := Chg.new hS0
    refine wp_noPanicG ?_
    refine wp_region_held_drew (S := fun w' => Chg (fun k => k = b) X w') (by as_aux_lemma => kernel_rfl) hHd (fun hHeld => ?_)
    simp only [List.size_toArray, List.length_cons, List.length_nil, Nat.reduceAdd, Array.replicate_succ, Array.replicate_zero, List.push_toArray, List.nil_append, List.cons_append]
    obtain ⟨wd, hwd⟩ : ∃ Z, X.drew = Z := ⟨_, rfl⟩
    rw [hwd] at hS0 hHeld ⊢
    clear hHd hwd
    refine wpAnyH_take (i := 0) (oi := { dst := some 13, op := Op.move (Operand.tmp 3), type := 23, pos := "law.go:160", after := #[], guard := none }) (v := ?vq0A) rfl (by as_aux_lemma => kernel_rfl) (by as_aux_lemma => kernel_rfl) (by as_aux_lemma => kernel_rfl) (fun _ _ _ h => h) (Or.inl ⟨by rfl, ?yq0A⟩) (by assumption) ?rq0A
    case yq0A => (intro w hSw; (try dsimp only at hSw); go_simp <;> with_reducible rfl)
    simp only [Act.put, List.setIfInBounds_toArray, List.set_cons_zero, List.set_cons_succ]
    refine wpAnyH_take (i := 2) (oi := { dst := some 15, op := Op.move (Operand.tmp 0), type := 3, pos := "law.go:160", after := #[], guard := none }) (v := ?vq1A) rfl (by as_aux_lemma => kernel_rfl) (by as_aux_lemma => kernel_rfl) (by as_aux_lemma => kernel_rfl) (fun _ _ _ h => h) (Or.inl ⟨by rfl, ?yq1A⟩) (by assumption) ?rq1A
    case yq1A => (intro w hSw; (try dsimp only at hSw); go_simp <;> with_reducible rfl)
    simp only [Act.put, List.setIfInBounds_toArray, List.set_cons_zero, List.set_cons_succ]
    refine wpAnyH_take (i := 3) (oi := { dst := some 16, op := Op.binOp BinOp.add 3 (Operand.const (Value.int IntKind.i64 49152)) (Operand.tmp 15) 3, type := 3, pos := "law.go:160", after := #[{ on := 2, ground := Ground.data }], guard := none }) (v := ?vq2A) rfl (by as_aux_lemma => kernel_rfl) (by as_aux_lemma => kernel_rfl) (by as_aux_lemma => kernel_rfl) (fun _ _ _ h => h) (Or.inl ⟨by rfl, ?yq2A⟩) (by assumption) ?rq2A
    case yq2A => (intro w hSw; (try dsimp only at hSw); go_simp <;> with_reducible rfl)
    simp only [Act.put, List.setIfInBounds_toArray, List.set_cons_zero, List.set_cons_succ]
    refine wpAnyH_ready (rs := [1, 4]) (by as_aux_lemma => kernel_rfl) (by simp) ?_
    refine AllReadyH.cons (o := { dst := some 14, op := Op.call { callee := Callee.value (Operand.func 8), args := #[Operand.const (Value.int IntKind.u8 1)], argTypes := #[5] }, type := 28, pos := "law.go:160", after := #[], guard := none }) rfl (fun K hK => ?_) ?_
    · rw [if_pos (by rfl)]
      go_simp
      (go_at_call 8; refine (ao1 _).mono ?_; rintro e z3 ⟨rfl, hz3⟩)
      have hSz3 : Below X.heap.size X z3 := rstep hz3 hS0
      refine hK.out _ _ (by (try dsimp only); exact Chg.new hSz3) (fun hHeld => ?_)
      clear hK K
      simp only [List.setIfInBounds_toArray, List.set_cons_zero, List.set_cons_succ]
      refine wpAnyH_ready (rs := [4]) (by as_aux_lemma => kernel_rfl) (by simp) ?_
      refine AllReadyH.cons (o := { dst := some 17, op := Op.makeSlice 30 (Operand.tmp 16) (Operand.tmp 16), type := 30, pos := "law.go:160", after := #[{ on := 3, ground := Ground.data }, { on := 3, ground := Ground.data }], guard := none }) rfl (fun K hK => ?_) (by exact AllReadyH.nil)
      rw [if_pos (by rfl)]
      go_simp
      obtain ⟨y4, hy4⟩ : ∃ y, (z3).alloc (.cells RB 5) = y := ⟨_, rfl⟩
      have hby4 : Blk y4 (z3).heap.size 5 RB := by rw [← hy4]; exact Blk.new _ _ _
      have hzy4 : Below (z3).heap.size (z3) y4 := by rw [← hy4]; exact balloc (Below.refl _ _) _
      have hSy4 : Below X.heap.size X y4 := rstep hzy4 hSz3
      obtain ⟨gy4, hgy4⟩ : ∃ g, (z3).heap.size = g := ⟨_, rfl⟩
      rw [hgy4] at hby4
      rw [hy4]
      rw [hgy4]
      refine hK.out _ _ (by (try dsimp only); exact Chg.new hSy4) (fun hHeld => ?_)
      clear hK K
      simp only [List.setIfInBounds_toArray, List.set_cons_zero, List.set_cons_succ]
      refine wpAnyH_take (i := 5) (oi := { dst := some 18, op := Op.build 38 #[(2, Operand.tmp 17)], type := 38, pos := "law.go:160", after := #[{ on := 4, ground := Ground.data }], guard := none }) (v := ?vq5A) rfl (by as_aux_lemma => kernel_rfl) (by as_aux_lemma => kernel_rfl) (by as_aux_lemma => kernel_rfl) (fun _ _ _ h => h) (Or.inl ⟨by rfl, ?yq5A⟩) (by assumption) ?rq5A
      case yq5A => (intro w hSw; (try dsimp only at hSw); go_simp <;> with_reducible rfl)
      simp only [Act.put, List.setIfInBounds_toArray, List.set_cons_zero, List.set_cons_succ]
      refine wpAnyH_ready (rs := [6]) (by as_aux_lemma => kernel_rfl) (by simp) ?_
      refine AllReadyH.cons (o := { dst := some 19, op := Op.call { callee := Callee.value (Operand.func 7), args := #[Operand.tmp 13, Operand.tmp 14, Operand.tmp 18], argTypes := #[23, 28, 38] }, type := 25, pos := "law.go:160", after := #[{ on := 0, ground := Ground.data }, { on := 1, ground := Ground.data }, { on := 5, ground := Ground.data }, { on := 1, ground := Ground.chain }], guard := none }) rfl (fun K hK => ?_) (by exact AllReadyH.nil)
      rw [if_pos (by rfl)]
      go_simp
      (go_at_call 7; refine (HP.out _ _ hSy4 hby4).mono ?_; rintro e z6 ⟨rfl, haz6, hcz6⟩)
      have hCz6 := (Chg.new (M := fun k => k = b) hSy4).trans hcz6 (fun _ _ h => h)
      refine hK.out _ _ (by (try dsimp only); exact hCz6) (fun hHeld => ?_)
      clear hK K
      simp only [List.setIfInBounds_toArray, List.set_cons_zero, List.set_cons_succ]
      refine wpAnyH_take (i := 7) (oi := { dst := some 4, op := Op.assign (Operand.tmp 19), type := 25, pos := "law.go:160", after := #[{ on := 6, ground := Ground.data }, { on := 6, ground := Ground.chain }, { on := 0, ground := Ground.phase }, { on := 1, ground := Ground.phase }, { on := 2, ground := Ground.phase }, { on := 3, ground := Ground.phase }, { on := 4, ground := Ground.phase }, { on := 5, ground := Ground.phase }, { on := 6, ground := Ground.phase }], guard := none }) (v := ?vq7A) rfl (by as_aux_lemma => kernel_rfl) (by as_aux_lemma => kernel_rfl) (by as_aux_lemma => kernel_rfl) (fun _ _ _ h => h) (Or.inl ⟨by rfl, ?yq7A⟩) (by assumption) ?rq7A
      case yq7A => (intro w hSw; (try dsimp only at hSw); go_simp <;> with_reducible rfl)
      simp only [Act.put, List.setIfInBounds_toArray, List.set_cons_zero, List.set_cons_succ]
      refine wpAnyH_done (by as_aux_lemma => kernel_rfl) ?_ _
      clear hHeld
      simp only [noPanicG]
      have HS := Lib.hid (And.intro haz6 hCz6)
      clear haz6 hCz6 hcz6
      go_wp2_with (first
        | (go_at_call 5; refine (aworks_any _).mono ?_; rintro e y9 ⟨rfl, k9⟩)
        | (go_at_call 9; refine (anum_any _ _).mono ?_; rintro e zn ⟨rfl, rfl⟩)
        | (go_at_call 8; refine (ao1 _).mono ?_; rintro e y1 ⟨rfl, k1⟩)
        | (go_at_call 10; refine (aget_any p b _ (aofL 1) (aofL_ad (by decide)) _ (HS.out.1.keep k1)).mono ?_; rintro e y2 ⟨c, rfl, hB, _, k2⟩; rw [glk_put_same] at hB; obtain ⟨x2, c2, hc2⟩ : ∃ x k, c = .slice x N k := (by obtain ⟨_, x, k, h, _⟩ := hB; exact ⟨x, k, by rw [h, List.length_replicate]⟩); subst hc2; clear hB)
        | fail)
      go_ret
      exact ⟨rfl, (HW.out.1.trans (HS.out.2.below HW.out.1.size (fun k hk e => by have := HW.out.2; omega))).trans ((bstep (bstep k1 k2) k9).mono (Nat.le_trans HW.out.1.size HS.out.2.size))⟩
    refine AllReadyH.cons (o := { dst := some 17, op := Op.makeSlice 30 (Operand.tmp 16) (Operand.tmp 16), type := 30, pos := "law.go:160", after := #[{ on := 3, ground := Ground.data }, { on := 3, ground := Ground.data }], guard := none }) rfl (fun K hK => ?_) (by exact AllReadyH.nil)
    rw [if_pos (by rfl)]
    go_simp
    obtain ⟨y8, hy8⟩ : ∃ y, (wd).alloc (.cells RB 5) = y := ⟨_, rfl⟩
    have hby8 : Blk y8 (wd).heap.size 5 RB := by rw [← hy8]; exact Blk.new _ _ _
    have hzy8 : Below (wd).heap.size (wd) y8 := by rw [← hy8]; exact balloc (Below.refl _ _) _
    have hSy8 : Below X.heap.size X y8 := rstep hzy8 hS0
    obtain ⟨gy8, hgy8⟩ : ∃ g, (wd).heap.size = g := ⟨_, rfl⟩
    rw [hgy8] at hby8
    rw [hy8]
    rw [hgy8]
    refine hK.out _ _ (by (try dsimp only); exact Chg.new hSy8) (fun hHeld => ?_)
    clear hK K
    simp only [List.setIfInBounds_toArray, List.set_cons_zero, List.set_cons_succ]
    refine wpAnyH_take (i := 5) (oi := { dst := some 18, op := Op.build 38 #[(2, Operand.tmp 17)], type := 38, pos := "law.go:160", after := #[{ on := 4, ground := Ground.data }], guard := none }) (v := ?vq9A) rfl (by as_aux_lemma => kernel_rfl) (by as_aux_lemma => kernel_rfl) (by as_aux_lemma => kernel_rfl) (fun _ _ _ h => h) (Or.inl ⟨by rfl, ?yq9A⟩) (by assumption) ?rq9A
    case yq9A => (intro w hSw; (try dsimp only at hSw); go_simp <;> with_reducible rfl)
    simp only [Act.put, List.setIfInBounds_toArray, List.set_cons_zero, List.set_cons_succ]
    refine wpAnyH_ready (rs := [1]) (by as_aux_lemma => kernel_rfl) (by simp) ?_
    refine AllReadyH.cons (o := { dst := some 14, op := Op.call { callee := Callee.value (Operand.func 8), args := #[Operand.const (Value.int IntKind.u8 1)], argTypes := #[5] }, type := 28, pos := "law.go:160", after := #[], guard := none }) rfl (fun K hK => ?_) (by exact AllReadyH.nil)
    rw [if_pos (by rfl)]
    go_simp
    (go_at_call 8; refine (ao1 _).mono ?_; rintro e z10 ⟨rfl, hz10⟩)
    have hSz10 : Below X.heap.size X z10 := rstep hz10 hSy8
    have hg_z10 := hby8.keep hz10
    refine hK.out _ _ (by (try dsimp only); exact Chg.new hSz10) (fun hHeld => ?_)
    clear hK K
    simp only [List.setIfInBounds_toArray, List.set_cons_zero, List.set_cons_succ]
    refine wpAnyH_ready (rs := [6]) (by as_aux_lemma => kernel_rfl) (by simp) ?_
    refine AllReadyH.cons (o := { dst := some 19, op := Op.call { callee := Callee.value (Operand.func 7), args := #[Operand.tmp 13, Operand.tmp 14, Operand.tmp 18], argTypes := #[23, 28, 38] }, type := 25, pos := "law.go:160", after := #[{ on := 0, ground := Ground.data }, { on := 1, ground := Ground.data }, { on := 5, ground := Ground.data }, { on := 1, ground := Ground.chain }], guard := none }) rfl (fun K hK => ?_) (by exact AllReadyH.nil)
    rw [if_pos (by rfl)]
    go_simp
    (go_at_call 7; refine (HP.out _ _ hSz10 hg_z10).mono ?_; rintro e z11 ⟨rfl, haz11, hcz11⟩)
    have hCz11 := (Chg.new (M := fun k => k = b) hSz10).trans hcz11 (fun _ _ h => h)
    refine hK.out _ _ (by (try dsimp only); exact hCz11) (fun hHeld => ?_)
    clear hK K
    simp only [List.setIfInBounds_toArray, List.set_cons_zero, List.set_cons_succ]
    refine wpAnyH_take (i := 7) (oi := { dst := some 4, op := Op.assign (Operand.tmp 19), type := 25, pos := "law.go:160", after := #[{ on := 6, ground := Ground.data }, { on := 6, ground := Ground.chain }, { on := 0, ground := Ground.phase }, { on := 1, ground := Ground.phase }, { on := 2, ground := Ground.phase }, { on := 3, ground := Ground.phase }, { on := 4, ground := Ground.phase }, { on := 5, ground := Ground.phase }, { on := 6, ground := Ground.phase }], guard := none }) (v := ?vq12A) rfl (by as_aux_lemma => kernel_rfl) (by as_aux_lemma => kernel_rfl) (by as_aux_lemma => kernel_rfl) (fun _ _ _ h => h) (Or.inl ⟨by rfl, ?yq12A⟩) (by assumption) ?rq12A
    case yq12A => (intro w hSw; (try dsimp only at hSw); go_simp <;> with_reducible rfl)
    simp only [Act.put, List.setIfInBounds_toArray, List.set_cons_zero, List.set_cons_succ]
    refine wpAnyH_done (by as_aux_lemma => kernel_rfl) ?_ _
    clear hHeld
    simp only [noPanicG]
    have HS := Lib.hid (And.intro haz11 hCz11)
    clear haz11 hCz11 hcz11
    go_wp2_with (first
      | (go_at_call 5; refine (aworks_any _).mono ?_; rintro e y9 ⟨rfl, k9⟩)
      | (go_at_call 9; refine (anum_any _ _).mono ?_; rintro e zn ⟨rfl, rfl⟩)
      | (go_at_call 8; refine (ao1 _).mono ?_; rintro e y1 ⟨rfl, k1⟩)
      | (go_at_call 10; refine (aget_any p b _ (aofL 1) (aofL_ad (by decide)) _ (HS.out.1.keep k1)).mono ?_; rintro e y2 ⟨c, rfl, hB, _, k2⟩; rw [glk_put_same] at hB; obtain ⟨x2, c2, hc2⟩ : ∃ x k, c = .slice x N k := (by obtain ⟨_, x, k, h, _⟩ := hB; exact ⟨x, k, by rw [h, List.length_replicate]⟩); subst hc2; clear hB)
      | fail)
    go_ret
    exact ⟨rfl, (HW.out.1.trans (HS.out.2.below HW.out.1.size (fun k hk e => by have := HW.out.2; omega))).trans ((bstep (bstep k1 k2) k9).mono (Nat.le_trans HW.out.1.size HS.out.2.size))⟩
end Go.Proofs.Ytcplhalgjjhmdaa
