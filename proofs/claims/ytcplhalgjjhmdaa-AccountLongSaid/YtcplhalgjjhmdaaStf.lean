/- slot: Get, Was. -/
import Derived.Test.YtcplhalgjjhmdaaSte
import Derived.Deep.DeepCutAuto
import Derived.Deep.Onto
import Derived.Deep.RegionHeld3
import Derived.Deep.RegionLaw
import Derived.Lib.MinMax
namespace Go.Proofs.Ytcplhalgjjhmdaa
open Go.RowKit Go.Shelf Go.ChangeMaps Go.MapKept

/-- A look's box: it looks into one map; into two. -/
def Lk1 (X : World) (g b : Nat) : Prop := ∃ s c, Blk X g 106 #[.slice (some ⟨s, 0, none⟩) 1 c] ∧ X.cell? ⟨s, 0, none⟩ = some (.map (some b))
def Lk2 (X : World) (g b d : Nat) : Prop := ∃ s c, Blk X g 106 #[.slice (some ⟨s, 0, none⟩) 2 c] ∧ X.cell? ⟨s, 0, none⟩ = some (.map (some b)) ∧ X.cell? ⟨s, 1, none⟩ = some (.map (some d))
theorem Lk1.keep {X Y : World} {g b : Nat} (h : Lk1 X g b) (k : Below X.heap.size X Y) : Lk1 Y g b := by
  obtain ⟨s, c, h1, h2⟩ := h
  exact ⟨s, c, h1.keep k, (k.cell (p := ⟨s, 0, none⟩) (World.block_lt_of_cell? X _ h2)).trans h2⟩
theorem Lk2.keep {X Y : World} {g b d : Nat} (h : Lk2 X g b d) (k : Below X.heap.size X Y) : Lk2 Y g b d := by
  obtain ⟨s, c, h1, h2, h3⟩ := h
  exact ⟨s, c, h1.keep k, (k.cell (p := ⟨s, 0, none⟩) (World.block_lt_of_cell? X _ h2)).trans h2, (k.cell (p := ⟨s, 1, none⟩) (World.block_lt_of_cell? X _ h3)).trans h3⟩
theorem lookAt1 (s c b : Nat) (X : World) (h : X.cell? ⟨s, 0, none⟩ = some (.map (some b))) : Calls Try.prog 40 #[.slice (some ⟨s, 0, none⟩) 1 c] X fun e w' => ∃ g, e = .returned (.func (.func 52) #[] #[.pointer (some ⟨g, 0, none⟩)]) ∧ Lk1 w' g b ∧ Below X.heap.size X w' ∧ X.heap.size ≤ g := by
  refine (look_any _ 1 c X).mono ?_
  rintro e w' ⟨rfl, rfl⟩
  have hal := balloc (Below.refl X.heap.size X) (.cells #[.slice (some ⟨s, 0, none⟩) 1 c] 106)
  exact ⟨_, rfl, ⟨s, c, Blk.new X _ _, (hal.cell (p := ⟨s, 0, none⟩) (World.block_lt_of_cell? X _ h)).trans h⟩, hal, Nat.le_refl _⟩
theorem lookAt2 (s c b d : Nat) (X : World) (h : X.cell? ⟨s, 0, none⟩ = some (.map (some b))) (h2 : X.cell? ⟨s, 1, none⟩ = some (.map (some d))) : Calls Try.prog 40 #[.slice (some ⟨s, 0, none⟩) 2 c] X fun e w' => ∃ g, e = .returned (.func (.func 52) #[] #[.pointer (some ⟨g, 0, none⟩)]) ∧ Lk2 w' g b d ∧ Below X.heap.size X w' ∧ X.heap.size ≤ g := by
  refine (look_any _ 2 c X).mono ?_
  rintro e w' ⟨rfl, rfl⟩
  have hal := balloc (Below.refl X.heap.size X) (.cells #[.slice (some ⟨s, 0, none⟩) 2 c] 106)
  exact ⟨_, rfl, ⟨s, c, Blk.new X _ _, (hal.cell (p := ⟨s, 0, none⟩) (World.block_lt_of_cell? X _ h)).trans h, (hal.cell (p := ⟨s, 1, none⟩) (World.block_lt_of_cell? X _ h2)).trans h2⟩, hal, Nat.le_refl _⟩
theorem look1_at (g b : Nat) (m : Nat → Option (Nat × Nat)) (n : Nat) (hn : n < MM) (X : World) (h : Lk1 X g b) (hm : Mp X b m) : Calls Try.prog 52 #[W n, .pointer (some ⟨g, 0, none⟩)] X fun e w' => e = .returned (vP (lk m n)) ∧ Below X.heap.size X w' := by
  obtain ⟨s, c, h1, h2⟩ := h
  exact look1_one g s c b m n hn X h1 h2 hm
theorem look2_at (g b d : Nat) (f m : Nat → Option (Nat × Nat)) (n : Nat) (hn : n < MM) (X : World) (h : Lk2 X g b d) (hf : Mp X b f) (hm : Mp X d m) : Calls Try.prog 52 #[W n, .pointer (some ⟨g, 0, none⟩)] X fun e w' => e = .returned (vP (lk2 f m n)) ∧ Below X.heap.size X w' := by
  obtain ⟨s, c, h1, h2, h3⟩ := h
  exact look1_two g s c b d f m n hn X h1 h2 h3 hf hm
theorem cellOne (X : World) (t : TypeId) (v : Value) : (X.alloc (.cells #[v] t)).cell? ⟨X.heap.size, 0, none⟩ = some v := cell_of_row _ _ 0 _ _ _ (Blk.new X t #[v])
theorem cellTwo (X : World) (t : TypeId) (v u : Value) : (X.alloc (.cells #[v, u] t)).cell? ⟨X.heap.size, 0, none⟩ = some v ∧ (X.alloc (.cells #[v, u] t)).cell? ⟨X.heap.size, 1, none⟩ = some u := ⟨cell_of_row _ _ 0 _ _ _ (Blk.new X t #[v, u]), cell_of_row _ _ 1 _ _ _ (Blk.new X t #[v, u])⟩
theorem cellOneD (X : World) (t : TypeId) (v : Value) : (X.alloc (.cells #[v] t)).drew.cell? ⟨X.heap.size, 0, none⟩ = some v := cellOne X t v
theorem cellTwoD (X : World) (t : TypeId) (v u : Value) : (X.alloc (.cells #[v, u] t)).drew.cell? ⟨X.heap.size, 0, none⟩ = some v ∧ (X.alloc (.cells #[v, u] t)).drew.cell? ⟨X.heap.size, 1, none⟩ = some u := cellTwo X t v u
theorem Lk1.drew {X : World} {g b : Nat} (h : Lk1 X g b) : Lk1 X.drew g b := h
theorem HelN.drew {n : Nat} {t : TypeId} {W1 w' : World} {R : Nat} (h : HelN n t W1 R w') : HelN n t W1 R w'.drew := ⟨grown_drew h.1, h.2⟩
theorem Lk2.drew {X : World} {g b d : Nat} (h : Lk2 X g b d) : Lk2 X.drew g b d := h
attribute [local irreducible] Lk1 Lk2 Mp HelN
set_option maxRecDepth 100000 in
set_option maxHeartbeats 1000000 in
theorem was_any (g bv bw many : Nat) (fv fw : Nat → Option (Nat × Nat)) (n : Nat) (hn : n < MM) (w : World) (h : SlB w g bv bw fv fw many) :
    Calls Try.prog 39 #[.pointer (some ⟨g, 0, none⟩), W n] w fun e w' => e = .returned (vP (lk fw n)) ∧ Below w.heap.size w w' := by
  obtain ⟨W1, hW⟩ : ∃ W1, (w.alloc (.cells (Wc n) 33)).alloc (.cells #[.int .u64 0, .int .u64 0, .int .u64 0, .int .u64 0, .int .u64 0] 36) = W1 := ⟨_, rfl⟩
  have hal : Below w.heap.size w W1 := by rw [← hW]; exact balloc (balloc (Below.refl w.heap.size w) _) _
  have hN : Blk W1 (w.heap.size + 1) 36 #[.int .u64 0, .int .u64 0, .int .u64 0, .int .u64 0, .int .u64 0] := by rw [← hW]; exact Blk.newS w _ _ _
  have hK : Blk W1 w.heap.size 33 (Wc n) := by rw [← hW]; exact (Blk.new w _ _).alloc _
  have h1 := h.keep hal
  have hglt := h.1.lt
  have hwlt := h.2.2.1.lt
  have hvlt := h.2.1.lt
  have hNone := Lib.hid (none_not g bv _ _ W1 h1.1)
  have l1 : ∀ w', HelN 5 36 W1 (w.heap.size + 1) w' → w'.cell? ⟨g, 1, none⟩ = some (.map (some bw)) := fun w' k => cell_of_row _ _ 1 _ _ _ (k.blk h1.1 (by omega))
  have l20 : ∀ w', HelN 5 36 W1 (w.heap.size + 1) w' → w'.cell? ⟨w.heap.size, 0, none⟩ = some (.int .u64 (lb n 0)) := fun w' k => cell_of_row _ _ 0 _ _ _ (k.blk hK (by omega))
  have l21 : ∀ w', HelN 5 36 W1 (w.heap.size + 1) w' → w'.cell? ⟨w.heap.size, 1, none⟩ = some (.int .u64 (lb n 1)) := fun w' k => cell_of_row _ _ 1 _ _ _ (k.blk hK (by omega))
  have l22 : ∀ w', HelN 5 36 W1 (w.heap.size + 1) w' → w'.cell? ⟨w.heap.size, 2, none⟩ = some (.int .u64 (lb n 2)) := fun w' k => cell_of_row _ _ 2 _ _ _ (k.blk hK (by omega))
  have l23 : ∀ w', HelN 5 36 W1 (w.heap.size + 1) w' → w'.cell? ⟨w.heap.size, 3, none⟩ = some (.int .u64 (lb n 3)) := fun w' k => cell_of_row _ _ 3 _ _ _ (k.blk hK (by omega))
  have l30 : ∀ w', HelN 5 36 W1 (w.heap.size + 1) w' → w'.cell? ⟨w.heap.size + 1, 0, none⟩ = some (cellV w' ⟨w.heap.size + 1, 0, none⟩) := fun w' k => k.cell 0 (by omega)
  have l40 : ∀ w', HelN 5 36 W1 (w.heap.size + 1) w' → w'.frozen? ⟨w.heap.size + 1, 0, none⟩ = false := fun w' k => k.frozen 0
  have l31 : ∀ w', HelN 5 36 W1 (w.heap.size + 1) w' → w'.cell? ⟨w.heap.size + 1, 1, none⟩ = some (cellV w' ⟨w.heap.size + 1, 1, none⟩) := fun w' k => k.cell 1 (by omega)
  have l41 : ∀ w', HelN 5 36 W1 (w.heap.size + 1) w' → w'.frozen? ⟨w.heap.size + 1, 1, none⟩ = false := fun w' k => k.frozen 1
  have l32 : ∀ w', HelN 5 36 W1 (w.heap.size + 1) w' → w'.cell? ⟨w.heap.size + 1, 2, none⟩ = some (cellV w' ⟨w.heap.size + 1, 2, none⟩) := fun w' k => k.cell 2 (by omega)
  have l42 : ∀ w', HelN 5 36 W1 (w.heap.size + 1) w' → w'.frozen? ⟨w.heap.size + 1, 2, none⟩ = false := fun w' k => k.frozen 2
  have l33 : ∀ w', HelN 5 36 W1 (w.heap.size + 1) w' → w'.cell? ⟨w.heap.size + 1, 3, none⟩ = some (cellV w' ⟨w.heap.size + 1, 3, none⟩) := fun w' k => k.cell 3 (by omega)
  have l43 : ∀ w', HelN 5 36 W1 (w.heap.size + 1) w' → w'.frozen? ⟨w.heap.size + 1, 3, none⟩ = false := fun w' k => k.frozen 3
  have l34 : ∀ w', HelN 5 36 W1 (w.heap.size + 1) w' → w'.cell? ⟨w.heap.size + 1, 4, none⟩ = some (cellV w' ⟨w.heap.size + 1, 4, none⟩) := fun w' k => k.cell 4 (by omega)
  have l44 : ∀ w', HelN 5 36 W1 (w.heap.size + 1) w' → w'.frozen? ⟨w.heap.size + 1, 4, none⟩ = false := fun w' k => k.frozen 4
  have HM := Lib.hid (fun w' (k : HelN 5 36 W1 (w.heap.size + 1) w') => And.intro (k.map h1.2.1 (by omega)) (k.map h1.2.2.1 (by omega)))
  have h0 : HelN 5 36 W1 (w.heap.size + 1) W1.drew := HelN.start rfl hN
  have HW := Lib.hid (And.intro hW (And.intro hal (And.intro hN hn)))
  clear h h1 hglt hwlt hvlt hW hal hN hK hn
  go_enter Try.func39, Try.ntmps39
  go_upto_region 1 with fail
  rw [HW.out.1]
  go_upto_region 3 with (first | (go_at_call 36; refine (hNone.out).mono ?_; rintro e w1 ⟨rfl, rfl⟩) | fail)
  go_region_held3 (fun w' => HelN 5 36 W1 (w.heap.size + 1) w')
    (first | with_reducible assumption | with_reducible exact HelN.set (HelN.set (HelN.set (HelN.set (HelN.set (by assumption) _ _) _ _) _ _) _ _) _ _ | with_reducible exact HelN.call (balloc (Below.refl _ _) _) (by assumption) | with_reducible exact HelN.drew (HelN.call (balloc (Below.refl _ _) _) (by assumption)) | with_reducible exact HelN.drew (by assumption))
    (first
      | (go_at_call 40; refine (lookAt1 _ _ _ _ (by first | exact cellOne _ _ _ | exact cellOneD _ _ _)).mono ?_; rintro e w1 ⟨gL, rfl, hLk, hBl, _⟩; have hH : HelN 5 36 W1 (w.heap.size + 1) w1 := HelN.call hBl (by assumption))
      | (go_at_call 52; refine (look1_at _ bw fw n HW.out.2.2.2 _ (by first | assumption | exact Lk1.drew (by assumption)) (HM.out _ (by assumption)).2).mono ?_; rintro e w1 ⟨rfl, hBl⟩; have hH : HelN 5 36 W1 (w.heap.size + 1) w1 := HelN.call hBl (by assumption))
      | fail)
  all_goals
    go_wp2_with fail
    (try simp only [Exit.inBlock, Exit.then])
    refine bodyPost_ret (ret_val rfl rfl (HelN.five (by assumption) _ _ _ _ _)) rfl ⟨rfl, HelN.below (by assumption) HW.out.2.1 (Nat.le_refl _) (by omega)⟩
set_option maxRecDepth 100000 in
set_option maxHeartbeats 1000000 in
theorem get_any (g bv bw many : Nat) (fv fw : Nat → Option (Nat × Nat)) (n : Nat) (hn : n < MM) (w : World) (h : SlB w g bv bw fv fw many) :
    Calls Try.prog 21 #[.pointer (some ⟨g, 0, none⟩), W n] w fun e w' => e = .returned (vP (lk2 fv fw n)) ∧ Below w.heap.size w w' := by
  obtain ⟨W1, hW⟩ : ∃ W1, (w.alloc (.cells (Wc n) 33)).alloc (.cells #[.int .u64 0, .int .u64 0, .int .u64 0, .int .u64 0, .int .u64 0] 36) = W1 := ⟨_, rfl⟩
  have hal : Below w.heap.size w W1 := by rw [← hW]; exact balloc (balloc (Below.refl w.heap.size w) _) _
  have hN : Blk W1 (w.heap.size + 1) 36 #[.int .u64 0, .int .u64 0, .int .u64 0, .int .u64 0, .int .u64 0] := by rw [← hW]; exact Blk.newS w _ _ _
  have hK : Blk W1 w.heap.size 33 (Wc n) := by rw [← hW]; exact (Blk.new w _ _).alloc _
  have h1 := h.keep hal
  have hglt := h.1.lt
  have hwlt := h.2.2.1.lt
  have hvlt := h.2.1.lt
  have hNone := Lib.hid (none_not g bv _ _ W1 h1.1)
  have l1 : ∀ w', HelN 5 36 W1 (w.heap.size + 1) w' → w'.cell? ⟨g, 1, none⟩ = some (.map (some bw)) := fun w' k => cell_of_row _ _ 1 _ _ _ (k.blk h1.1 (by omega))
  have l5 : ∀ w', HelN 5 36 W1 (w.heap.size + 1) w' → w'.cell? ⟨g, 0, none⟩ = some (.map (some bv)) := fun w' k => cell_of_row _ _ 0 _ _ _ (k.blk h1.1 (by omega))
  have l20 : ∀ w', HelN 5 36 W1 (w.heap.size + 1) w' → w'.cell? ⟨w.heap.size, 0, none⟩ = some (.int .u64 (lb n 0)) := fun w' k => cell_of_row _ _ 0 _ _ _ (k.blk hK (by omega))
  have l21 : ∀ w', HelN 5 36 W1 (w.heap.size + 1) w' → w'.cell? ⟨w.heap.size, 1, none⟩ = some (.int .u64 (lb n 1)) := fun w' k => cell_of_row _ _ 1 _ _ _ (k.blk hK (by omega))
  have l22 : ∀ w', HelN 5 36 W1 (w.heap.size + 1) w' → w'.cell? ⟨w.heap.size, 2, none⟩ = some (.int .u64 (lb n 2)) := fun w' k => cell_of_row _ _ 2 _ _ _ (k.blk hK (by omega))
  have l23 : ∀ w', HelN 5 36 W1 (w.heap.size + 1) w' → w'.cell? ⟨w.heap.size, 3, none⟩ = some (.int .u64 (lb n 3)) := fun w' k => cell_of_row _ _ 3 _ _ _ (k.blk hK (by omega))
  have l30 : ∀ w', HelN 5 36 W1 (w.heap.size + 1) w' → w'.cell? ⟨w.heap.size + 1, 0, none⟩ = some (cellV w' ⟨w.heap.size + 1, 0, none⟩) := fun w' k => k.cell 0 (by omega)
  have l40 : ∀ w', HelN 5 36 W1 (w.heap.size + 1) w' → w'.frozen? ⟨w.heap.size + 1, 0, none⟩ = false := fun w' k => k.frozen 0
  have l31 : ∀ w', HelN 5 36 W1 (w.heap.size + 1) w' → w'.cell? ⟨w.heap.size + 1, 1, none⟩ = some (cellV w' ⟨w.heap.size + 1, 1, none⟩) := fun w' k => k.cell 1 (by omega)
  have l41 : ∀ w', HelN 5 36 W1 (w.heap.size + 1) w' → w'.frozen? ⟨w.heap.size + 1, 1, none⟩ = false := fun w' k => k.frozen 1
  have l32 : ∀ w', HelN 5 36 W1 (w.heap.size + 1) w' → w'.cell? ⟨w.heap.size + 1, 2, none⟩ = some (cellV w' ⟨w.heap.size + 1, 2, none⟩) := fun w' k => k.cell 2 (by omega)
  have l42 : ∀ w', HelN 5 36 W1 (w.heap.size + 1) w' → w'.frozen? ⟨w.heap.size + 1, 2, none⟩ = false := fun w' k => k.frozen 2
  have l33 : ∀ w', HelN 5 36 W1 (w.heap.size + 1) w' → w'.cell? ⟨w.heap.size + 1, 3, none⟩ = some (cellV w' ⟨w.heap.size + 1, 3, none⟩) := fun w' k => k.cell 3 (by omega)
  have l43 : ∀ w', HelN 5 36 W1 (w.heap.size + 1) w' → w'.frozen? ⟨w.heap.size + 1, 3, none⟩ = false := fun w' k => k.frozen 3
  have l34 : ∀ w', HelN 5 36 W1 (w.heap.size + 1) w' → w'.cell? ⟨w.heap.size + 1, 4, none⟩ = some (cellV w' ⟨w.heap.size + 1, 4, none⟩) := fun w' k => k.cell 4 (by omega)
  have l44 : ∀ w', HelN 5 36 W1 (w.heap.size + 1) w' → w'.frozen? ⟨w.heap.size + 1, 4, none⟩ = false := fun w' k => k.frozen 4
  have HM := Lib.hid (fun w' (k : HelN 5 36 W1 (w.heap.size + 1) w') => And.intro (k.map h1.2.1 (by omega)) (k.map h1.2.2.1 (by omega)))
  have h0 : HelN 5 36 W1 (w.heap.size + 1) W1.drew := HelN.start rfl hN
  have HW := Lib.hid (And.intro hW (And.intro hal (And.intro hN hn)))
  clear h h1 hglt hwlt hvlt hW hal hN hK hn
  go_enter Try.func21, Try.ntmps21
  go_upto_region 1 with fail
  rw [HW.out.1]
  go_upto_region 3 with (first | (go_at_call 36; refine (hNone.out).mono ?_; rintro e w1 ⟨rfl, rfl⟩) | fail)
  go_region_held3 (fun w' => HelN 5 36 W1 (w.heap.size + 1) w')
    (first | with_reducible assumption | with_reducible exact HelN.set (HelN.set (HelN.set (HelN.set (HelN.set (by assumption) _ _) _ _) _ _) _ _) _ _ | with_reducible exact HelN.call (balloc (Below.refl _ _) _) (by assumption) | with_reducible exact HelN.drew (HelN.call (balloc (Below.refl _ _) _) (by assumption)) | with_reducible exact HelN.drew (by assumption))
    (first
      | (go_at_call 40; refine (lookAt2 _ _ _ _ _ (by first | exact (cellTwo _ _ _ _).1 | exact (cellTwoD _ _ _ _).1) (by first | exact (cellTwo _ _ _ _).2 | exact (cellTwoD _ _ _ _).2)).mono ?_; rintro e w1 ⟨gL, rfl, hLk, hBl, _⟩; have hH : HelN 5 36 W1 (w.heap.size + 1) w1 := HelN.call hBl (by assumption))
      | (go_at_call 52; refine (look2_at _ bv bw fv fw n HW.out.2.2.2 _ (by first | assumption | exact Lk2.drew (by assumption)) (HM.out _ (by assumption)).1 (HM.out _ (by assumption)).2).mono ?_; rintro e w1 ⟨rfl, hBl⟩; have hH : HelN 5 36 W1 (w.heap.size + 1) w1 := HelN.call hBl (by assumption))
      | fail)
  all_goals
    go_wp2_with fail
    (try simp only [Exit.inBlock, Exit.then])
    refine bodyPost_ret (ret_val rfl rfl (HelN.five (by assumption) _ _ _ _ _)) rfl ⟨rfl, HelN.below (by assumption) HW.out.2.1 (Nat.le_refl _) (by omega)⟩

end Go.Proofs.Ytcplhalgjjhmdaa
