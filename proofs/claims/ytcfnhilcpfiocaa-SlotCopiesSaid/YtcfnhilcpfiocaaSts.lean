/- slot: what no storage answers; a copy. -/
import Derived.Test.YtcfnhilcpfiocaaSto
namespace Go.Proofs.Ytcfnhilcpfiocaa
open Go.RowKit Go.Shelf Go.ChangeMaps Go.MapKept

/-- No storage: nil, or a zero one that no call made. -/
def NoS (X : World) (p : Value) : Prop := p = .pointer none ∨ ∃ g x y, p = .pointer (some ⟨g, 0, none⟩) ∧ Blk X g 44 #[.map none, x, y]
theorem NoS.keep {X Y : World} {p : Value} (h : NoS X p) (k : Below X.heap.size X Y) : NoS Y p := h.imp (fun e => e) fun ⟨g, x, y, e, b⟩ => ⟨g, x, y, e, b.keep k⟩
theorem none_of {w : World} {p : Value} (h : NoS w p) : Calls Try.prog 26 #[p] w fun e w' => e = .returned (.bool true) ∧ w = w' := by
  rcases h with rfl | ⟨g, x, y, rfl, b⟩
  · exact none_nil w
  · exact none_zero g x y w b
set_option maxRecDepth 100000 in
theorem get_none (p : Value) (n : Nat) (w : World) (h : NoS w p) : Calls Try.prog 10 #[p, W n] w fun e w' => e = .returned (vP (0, 0)) ∧ Below w.heap.size w w' := by
  obtain ⟨W1, hW⟩ : ∃ W1, (w.alloc (.cells (Wc n) 25)).alloc (.cells #[.int .u64 0, .int .u64 0, .int .u64 0, .int .u64 0, .int .u64 0] 36) = W1 := ⟨_, rfl⟩
  have hal : Below w.heap.size w W1 := by rw [← hW]; exact balloc (balloc (Below.refl w.heap.size w) _) _
  have hb : Blk W1 (w.heap.size + 1) 36 #[.int .u64 0, .int .u64 0, .int .u64 0, .int .u64 0, .int .u64 0] := by rw [← hW]; exact Blk.newS w _ _ _
  have hN := Lib.hid (none_of (h.keep hal))
  have HW := Lib.hid (And.intro hW (And.intro hal hb))
  clear h hW hal hb
  go_enter Try.func10, Try.ntmps10
  go_upto_region 1 with fail
  rw [HW.out.1]
  have h5 : HelN 5 36 W1 (w.heap.size + 1) W1 := ⟨grown_refl W1 _, _, rfl, HW.out.2.2⟩
  have k0 : W1.cell? ⟨w.heap.size + 1, 0, none⟩ = some (.int .u64 0) := cell_of_row _ _ 0 _ _ _ HW.out.2.2
  have q0 : W1.frozen? ⟨w.heap.size + 1, 0, none⟩ = false := frozen_of_row _ _ 0 _ _ HW.out.2.2
  have k1 : W1.cell? ⟨w.heap.size + 1, 1, none⟩ = some (.int .u64 0) := cell_of_row _ _ 1 _ _ _ HW.out.2.2
  have q1 : W1.frozen? ⟨w.heap.size + 1, 1, none⟩ = false := frozen_of_row _ _ 1 _ _ HW.out.2.2
  have k2 : W1.cell? ⟨w.heap.size + 1, 2, none⟩ = some (.int .u64 0) := cell_of_row _ _ 2 _ _ _ HW.out.2.2
  have q2 : W1.frozen? ⟨w.heap.size + 1, 2, none⟩ = false := frozen_of_row _ _ 2 _ _ HW.out.2.2
  have k3 : W1.cell? ⟨w.heap.size + 1, 3, none⟩ = some (.int .u64 0) := cell_of_row _ _ 3 _ _ _ HW.out.2.2
  have q3 : W1.frozen? ⟨w.heap.size + 1, 3, none⟩ = false := frozen_of_row _ _ 3 _ _ HW.out.2.2
  have k4 : W1.cell? ⟨w.heap.size + 1, 4, none⟩ = some (.int .u64 0) := cell_of_row _ _ 4 _ _ _ HW.out.2.2
  have q4 : W1.frozen? ⟨w.heap.size + 1, 4, none⟩ = false := frozen_of_row _ _ 4 _ _ HW.out.2.2
  go_wp2_with (first | (go_at_call 26; refine (hN.out).mono ?_; rintro e w1 ⟨rfl, rfl⟩) | fail)
  (try simp only [Exit.inBlock, Exit.then])
  refine bodyPost_ret (ret_val rfl rfl (HelN.five h5 _ _ _ _ _)) rfl ⟨rfl, HelN.below (HelN.set (HelN.set (HelN.set (HelN.set (HelN.set h5 _ _) _ _) _ _) _ _) _ _) HW.out.2.1 (Nat.le_refl _) (by omega)⟩
set_option maxRecDepth 100000 in
theorem was_none (p : Value) (n : Nat) (w : World) (h : NoS w p) : Calls Try.prog 12 #[p, W n] w fun e w' => e = .returned (vP (0, 0)) ∧ Below w.heap.size w w' := by
  obtain ⟨W1, hW⟩ : ∃ W1, (w.alloc (.cells (Wc n) 25)).alloc (.cells #[.int .u64 0, .int .u64 0, .int .u64 0, .int .u64 0, .int .u64 0] 36) = W1 := ⟨_, rfl⟩
  have hal : Below w.heap.size w W1 := by rw [← hW]; exact balloc (balloc (Below.refl w.heap.size w) _) _
  have hb : Blk W1 (w.heap.size + 1) 36 #[.int .u64 0, .int .u64 0, .int .u64 0, .int .u64 0, .int .u64 0] := by rw [← hW]; exact Blk.newS w _ _ _
  have hN := Lib.hid (none_of (h.keep hal))
  have HW := Lib.hid (And.intro hW (And.intro hal hb))
  clear h hW hal hb
  go_enter Try.func12, Try.ntmps12
  go_upto_region 1 with fail
  rw [HW.out.1]
  have h5 : HelN 5 36 W1 (w.heap.size + 1) W1 := ⟨grown_refl W1 _, _, rfl, HW.out.2.2⟩
  have k0 : W1.cell? ⟨w.heap.size + 1, 0, none⟩ = some (.int .u64 0) := cell_of_row _ _ 0 _ _ _ HW.out.2.2
  have q0 : W1.frozen? ⟨w.heap.size + 1, 0, none⟩ = false := frozen_of_row _ _ 0 _ _ HW.out.2.2
  have k1 : W1.cell? ⟨w.heap.size + 1, 1, none⟩ = some (.int .u64 0) := cell_of_row _ _ 1 _ _ _ HW.out.2.2
  have q1 : W1.frozen? ⟨w.heap.size + 1, 1, none⟩ = false := frozen_of_row _ _ 1 _ _ HW.out.2.2
  have k2 : W1.cell? ⟨w.heap.size + 1, 2, none⟩ = some (.int .u64 0) := cell_of_row _ _ 2 _ _ _ HW.out.2.2
  have q2 : W1.frozen? ⟨w.heap.size + 1, 2, none⟩ = false := frozen_of_row _ _ 2 _ _ HW.out.2.2
  have k3 : W1.cell? ⟨w.heap.size + 1, 3, none⟩ = some (.int .u64 0) := cell_of_row _ _ 3 _ _ _ HW.out.2.2
  have q3 : W1.frozen? ⟨w.heap.size + 1, 3, none⟩ = false := frozen_of_row _ _ 3 _ _ HW.out.2.2
  have k4 : W1.cell? ⟨w.heap.size + 1, 4, none⟩ = some (.int .u64 0) := cell_of_row _ _ 4 _ _ _ HW.out.2.2
  have q4 : W1.frozen? ⟨w.heap.size + 1, 4, none⟩ = false := frozen_of_row _ _ 4 _ _ HW.out.2.2
  go_wp2_with (first | (go_at_call 26; refine (hN.out).mono ?_; rintro e w1 ⟨rfl, rfl⟩) | fail)
  (try simp only [Exit.inBlock, Exit.then])
  refine bodyPost_ret (ret_val rfl rfl (HelN.five h5 _ _ _ _ _)) rfl ⟨rfl, HelN.below (HelN.set (HelN.set (HelN.set (HelN.set (HelN.set h5 _ _) _ _) _ _) _ _) _ _) HW.out.2.1 (Nat.le_refl _) (by omega)⟩
set_option maxRecDepth 100000 in
theorem len_none (p : Value) (w : World) (h : NoS w p) : Calls Try.prog 18 #[p] w fun e w' => e = .returned (.int .i64 0) ∧ w = w' := by
  have hN := Lib.hid (none_of h)
  clear h
  go_enter Try.func18, Try.ntmps18
  go_wp2_with (first | (go_at_call 26; refine (hN.out).mono ?_; rintro e w1 ⟨rfl, rfl⟩) | fail)
  go_ret
  exact ⟨rfl, rfl⟩
def JSettle (w : World)  (a : Act) (X : World) : Prop := X = w ∧ ∃ x0 x1 x2 x3 x4 x5 x6 x7 x8 x9 x10 x11 x12 x13 x14 x15 x16 x17 x18 x19 x20 : Value, a = ⟨#[x0, x1, x2, x3, x4, x5, x6, x7, x8, x9, x10, x11, x12, x13, x14, x15, x16, x17, x18, x19, x20], []⟩
set_option maxRecDepth 100000 in
theorem settle_none (p : Value) (w : World) (h : NoS w p) : Calls Try.prog 17 #[p] w fun e w' => e = .returned (.int .i64 1) ∧ w = w' := by
  have hN := Lib.hid (none_of h)
  clear h
  go_enter Try.func17, Try.ntmps17
  go_wp2_with fail
  refine wp_scope_jumps 0 (JSettle w) (fun _ _ => 0) rfl ?first ?pass
  case first =>
    go_wp2_with (first | (go_at_call 26; refine (hN.out).mono ?_; rintro e w1 ⟨rfl, rfl⟩) | fail)
    go_step3
    exact ⟨rfl, rfl, _, _, _, _, _, _, _, _, _, _, _, _, _, _, _, _, _, _, _, _, _, rfl⟩
  case pass =>
    rintro a X ⟨rfl, x0, x1, x2, x3, x4, x5, x6, x7, x8, x9, x10, x11, x12, x13, x14, x15, x16, x17, x18, x19, x20, rfl⟩
    go_wp2_with fail
    simp only [Exit.jump]
    go_ret
    exact ⟨rfl, rfl⟩
def JCopy (w : World)  (a : Act) (X : World) : Prop := X = w ∧ ∃ x0 x1 x2 x3 x4 x5 x6 x7 x8 x9 x10 x11 x12 x13 x14 x15 x16 x17 x18 x19 : Value, a = ⟨#[x0, x1, x2, x3, x4, x5, x6, x7, x8, x9, x10, x11, x12, x13, x14, x15, x16, x17, x18, x19], []⟩
set_option maxRecDepth 100000 in
theorem copy_none (p : Value) (w : World) (h : NoS w p) : Calls Try.prog 19 #[p] w fun e w' => e = .returned (.pointer none) ∧ w = w' := by
  have hN := Lib.hid (none_of h)
  clear h
  go_enter Try.func19, Try.ntmps19
  go_wp2_with fail
  refine wp_scope_jumps 0 (JCopy w) (fun _ _ => 0) rfl ?first ?pass
  case first =>
    go_wp2_with (first | (go_at_call 26; refine (hN.out).mono ?_; rintro e w1 ⟨rfl, rfl⟩) | fail)
    go_step3
    exact ⟨rfl, rfl, _, _, _, _, _, _, _, _, _, _, _, _, _, _, _, _, _, _, _, _, rfl⟩
  case pass =>
    rintro a X ⟨rfl, x0, x1, x2, x3, x4, x5, x6, x7, x8, x9, x10, x11, x12, x13, x14, x15, x16, x17, x18, x19, rfl⟩
    go_wp2_with fail
    simp only [Exit.jump]
    go_ret
    exact ⟨rfl, rfl⟩
def JPut (w : World)  (a : Act) (X : World) : Prop := X = w ∧ ∃ x0 x1 x2 x3 x4 x5 x6 x7 x8 x9 x10 x11 x12 x13 x14 x15 x16 x17 x18 x19 x20 x21 x22 x23 x24 x25 x26 x27 x28 x29 x30 x31 x32 : Value, a = ⟨#[x0, x1, x2, x3, x4, x5, x6, x7, x8, x9, x10, x11, x12, x13, x14, x15, x16, x17, x18, x19, x20, x21, x22, x23, x24, x25, x26, x27, x28, x29, x30, x31, x32], []⟩
set_option maxRecDepth 100000 in
theorem put_none (p : Value) (n : Nat) (v : Nat × Nat) (w : World) (h : NoS w p) : Calls Try.prog 16 #[p, W n, vP v] w fun e w' => e = .returned (.int .i64 1) ∧ Below w.heap.size w w' := by
  obtain ⟨W1, hW⟩ : ∃ W1, (w.alloc (.cells (Wc n) 25)).alloc (.cells (vA v.1 v.2) 36) = W1 := ⟨_, rfl⟩
  have hal : Below w.heap.size w W1 := by rw [← hW]; exact balloc (balloc (Below.refl w.heap.size w) _) _
  have hN := Lib.hid (none_of (h.keep hal))
  have HW := Lib.hid (And.intro hW hal)
  clear h hW hal
  go_enter Try.func16, Try.ntmps16
  go_wp2_with fail
  rw [HW.out.1]
  refine wp_scope_jumps 0 (JPut W1) (fun _ _ => 0) rfl ?first ?pass
  case first =>
    go_wp2_with (first | (go_at_call 26; refine (hN.out).mono ?_; rintro e w1 ⟨rfl, rfl⟩) | fail)
    go_step3
    exact ⟨rfl, rfl, _, _, _, _, _, _, _, _, _, _, _, _, _, _, _, _, _, _, _, _, _, _, _, _, _, _, _, _, _, _, _, _, _, rfl⟩
  case pass =>
    rintro a X ⟨rfl, x0, x1, x2, x3, x4, x5, x6, x7, x8, x9, x10, x11, x12, x13, x14, x15, x16, x17, x18, x19, x20, x21, x22, x23, x24, x25, x26, x27, x28, x29, x30, x31, x32, rfl⟩
    go_wp2_with fail
    simp only [Exit.jump]
    go_ret
    exact ⟨rfl, HW.out.2⟩
def JAl (w : World) (p : Value) (q : Value) (a : Act) (X : World) : Prop := X = w ∧ ∃ x2 x3 x4 x5 x6 x7 x8 x9 x10 x11 x12 x13 x14 x15 x16 x17 x18 x19 x20 x21 x22 x23 x24 x25 x26 x27 x28 : Value, a = ⟨#[p, q, x2, x3, x4, x5, x6, x7, x8, x9, x10, x11, x12, x13, x14, x15, x16, x17, x18, x19, x20, x21, x22, x23, x24, x25, x26, x27, x28], []⟩
set_option maxRecDepth 100000 in
theorem alike_none2 (p q : Value) (up : Nat) (w : World) (h : NoS w p) (h2 : NoS w q) : Calls Try.prog 20 #[p, q, .int .u64 (up : Nat)] w fun e w' => e = .returned (.bool true) ∧ w = w' := by
  have hN1 := Lib.hid (none_of h)
  have hN2 := Lib.hid (none_of h2)
  clear h h2
  go_enter Try.func20, Try.ntmps20
  go_wp2_with fail
  refine wp_scope_jumps 0 (JAl w p q) (fun _ _ => 0) rfl ?first ?pass
  case first =>
    go_wp2_with (first | (go_at_call 26; with_reducible refine (hN1.out).mono ?_; rintro e w1 ⟨rfl, rfl⟩) | (go_at_call 26; with_reducible refine (hN2.out).mono ?_; rintro e w1 ⟨rfl, rfl⟩) | with_reducible refine And.intro (fun f h => (by cases h)) ?_ | fail)
    go_step3
    exact ⟨rfl, rfl, _, _, _, _, _, _, _, _, _, _, _, _, _, _, _, _, _, _, _, _, _, _, _, _, _, _, _, rfl⟩
  case pass =>
    rintro a X ⟨rfl, x2, x3, x4, x5, x6, x7, x8, x9, x10, x11, x12, x13, x14, x15, x16, x17, x18, x19, x20, x21, x22, x23, x24, x25, x26, x27, x28, rfl⟩
    go_wp2_with (first | (go_at_call 26; with_reducible refine (hN1.out).mono ?_; rintro e w1 ⟨rfl, rfl⟩) | (go_at_call 26; with_reducible refine (hN2.out).mono ?_; rintro e w1 ⟨rfl, rfl⟩) | with_reducible refine And.intro (fun f h => (by cases h)) ?_ | fail)
    simp only [Exit.jump]
    go_ret
    exact ⟨rfl, rfl⟩
set_option maxRecDepth 100000 in
theorem alike_none1 (p q : Value) (up : Nat) (w : World) (g b : Nat) (x y : Value) (hp : p = .pointer (some ⟨g, 0, none⟩)) (h : Blk w g 44 #[.map (some b), x, y]) (h2 : NoS w q) : Calls Try.prog 20 #[p, q, .int .u64 (up : Nat)] w fun e w' => e = .returned (.bool false) ∧ w = w' := by
  subst hp
  have hN1 := Lib.hid (none_not g b x y w h)
  have hN2 := Lib.hid (none_of h2)
  clear h h2
  go_enter Try.func20, Try.ntmps20
  go_wp2_with fail
  refine wp_scope_jumps 0 (JAl w (.pointer (some ⟨g, 0, none⟩)) q) (fun _ _ => 0) rfl ?first ?pass
  case first =>
    go_wp2_with (first | (go_at_call 26; with_reducible refine (hN1.out).mono ?_; rintro e w1 ⟨rfl, rfl⟩) | (go_at_call 26; with_reducible refine (hN2.out).mono ?_; rintro e w1 ⟨rfl, rfl⟩) | with_reducible refine And.intro (fun f h => (by cases h)) ?_ | fail)
    go_step3
    exact ⟨rfl, rfl, _, _, _, _, _, _, _, _, _, _, _, _, _, _, _, _, _, _, _, _, _, _, _, _, _, _, _, rfl⟩
  case pass =>
    rintro a X ⟨rfl, x2, x3, x4, x5, x6, x7, x8, x9, x10, x11, x12, x13, x14, x15, x16, x17, x18, x19, x20, x21, x22, x23, x24, x25, x26, x27, x28, rfl⟩
    go_wp2_with (first | (go_at_call 26; with_reducible refine (hN1.out).mono ?_; rintro e w1 ⟨rfl, rfl⟩) | (go_at_call 26; with_reducible refine (hN2.out).mono ?_; rintro e w1 ⟨rfl, rfl⟩) | with_reducible refine And.intro (fun f h => (by cases h)) ?_ | fail)
    simp only [Exit.jump]
    go_ret
    exact ⟨rfl, rfl⟩
set_option maxRecDepth 100000 in
theorem copy_any (g bv bw many : Nat) (fv fw : Nat → Option (Nat × Nat)) (w : World) (h : SlB w g bv bw fv fw many) :
    Calls Try.prog 19 #[.pointer (some ⟨g, 0, none⟩)] w fun e w' => ∃ g' bv', e = .returned (.pointer (some ⟨g', 0, none⟩)) ∧ SlB w' g' bv' bw fv fw many ∧ w.heap.size ≤ g' ∧ w.heap.size ≤ bv' ∧ Below w.heap.size w w' := by
  have hNone := Lib.hid (none_not g bv _ _ w h.1)
  have HC := Lib.hid (fun X (hX : Below w.heap.size w X) => clone_any bv fv X (h.2.1.keep hX))
  have l0 : ∀ w', Below w.heap.size w w' → w'.cell? ⟨g, 0, none⟩ = some (.map (some bv)) := fun w' k => cell_of_row _ _ 0 _ _ _ (h.1.keep k)
  have l1 : ∀ w', Below w.heap.size w w' → w'.cell? ⟨g, 1, none⟩ = some (.map (some bw)) := fun w' k => cell_of_row _ _ 1 _ _ _ (h.1.keep k)
  have l2 : ∀ w', Below w.heap.size w w' → w'.cell? ⟨g, 2, none⟩ = some (.int .i64 many) := fun w' k => cell_of_row _ _ 2 _ _ _ (h.1.keep k)
  have h0 : Below w.heap.size w w.drew := below_drew' (Below.refl _ _)
  have H := Lib.hid h
  clear h
  go_enter Try.func19, Try.ntmps19
  go_wp2_with fail
  refine wp_scope_jumps 0 (fun _ _ => False) (fun _ _ => 0) rfl ?first ?pass
  case pass => intro a w h; exact h.elim
  case first =>
    go_upto_region 2 with (first | (go_at_call 26; refine (hNone.out).mono ?_; rintro e w1 ⟨rfl, rfl⟩) | fail)
    go_region_held3 (fun w' => Below w.heap.size w w') (first | with_reducible assumption | with_reducible exact balloc (by assumption) _ | with_reducible exact below_drew' (by assumption)) (first
      | (go_at_call 35; refine (HC.out _ (by with_reducible assumption)).mono ?_; rintro e z ⟨rfl, hm, hz⟩; have hH : Below w.heap.size w z := bstep (by with_reducible assumption) hz; have HZ := Lib.hid (And.intro hm (And.intro hz hH)); clear hm hz)
      | fail)
    all_goals
      go_wp2_with fail
      simp only [Exit.jump]
      go_ret
      have hB := HZ.out.2.2
      have hm : Mp z w.heap.size fv := HZ.out.1
      have hN := Blk.new z 44 #[.map (some w.heap.size), .map (some bw), .int .i64 many]
      have hs := H.out.2.2.1.lt
      exact ⟨_, _, rfl, ⟨hN, hm.keep (balloc (Below.refl _ _) _), (H.out.2.2.1.keep hB).keep (balloc (Below.refl _ _) _), by omega⟩, hB.size, Nat.le_refl _, balloc hB _⟩

end Go.Proofs.Ytcfnhilcpfiocaa
