/- split: SDiv, SMod. -/
import Derived.Test.YthdapmceafnhgaaSr
import Derived.Test.YthdapmceafnhgaaTa
import Derived.Deep.RegionHeld3
namespace Go.Proofs.Ythdapmceafnhgaa
open Go.RowKit
attribute [local go_sem] ix0 ix1 ix2 ix3 ixb0
theorem ixb1 (x0 x1 : Value) (w : World) : (Instr.index 56 (.agg #[x0, x1]) (.int .i64 1)).run Try.prog w = .ok x1 w := by kernel_rfl
attribute [local go_sem] ixb1
/-- Turned, if that is asked for. -/
def tnN (a : Nat) (t : Bool) : Nat := if t then sb 0 a else a
theorem tn_lt (a : Nat) (ha : a < MM) : tnN a (ngN a) < MM := by
  unfold tnN
  split
  · rename_i h
    have h0 : 0 < a := by
      rcases Nat.eq_zero_or_pos a with e | e
      · subst e; exact absurd h (by decide +kernel)
      · exact e
    unfold sb; rw [Nat.mod_eq_of_lt ha]; omega
  · exact ha
theorem turned_t (a : Nat) (t : Bool) (w : World) :
    Calls Try.prog 28 #[W a, .bool t] w fun e w' => e = .returned (W (tnN a t)) ∧ Below w.heap.size w w' := turned_any a t w
/-- Signed ones split. -/
def sdN (a b : Nat) : Nat := tnN (tnN a (ngN a) / tnN b (ngN b)) (!(ngN a == ngN b))
def smN (a b : Nat) : Nat := tnN (mdN (tnN a (ngN a)) (tnN b (ngN b))) (ngN a)

/-- A word's block R alone may be written. -/
def HeldR (W1 : World) (R : Nat) (w' : World) : Prop := W1.grownBy w' (some R) ∧ ∃ t cs, cs.size = 4 ∧ Blk w' R t cs
def cellv (w' : World) (p : Addr) : Value := (w'.cell? p).getD undef
theorem HeldR.cell {W1 w' : World} {R : Nat} (h : HeldR W1 R w') (k : Nat) (hk : k < 4) : w'.cell? ⟨R, k, none⟩ = some (cellv w' ⟨R, k, none⟩) := by
  obtain ⟨_, t, cs, hs, hb⟩ := h
  have e := cell_of_row w' R k _ _ _ hb
  unfold cellv
  rw [e, Array.getElem?_eq_getElem (by omega)]; rfl
theorem HeldR.frozen {W1 w' : World} {R : Nat} (h : HeldR W1 R w') (k : Nat) : w'.frozen? ⟨R, k, none⟩ = false := by
  obtain ⟨_, t, cs, hs, hb⟩ := h
  exact frozen_of_row w' R k _ _ hb
theorem HeldR.blk {W1 w' : World} {R g : Nat} {t : TypeId} {cs : Array Value} (h : HeldR W1 R w') (hb : Blk W1 g t cs) (hne : g ≠ R) : Blk w' g t cs := hb.kept h.1 (fun e => hne (Option.some.inj e))
theorem HeldR.at {W1 w' : World} {R g k : Nat} {t : TypeId} {cs : Array Value} {v : Value} (h : HeldR W1 R w') (hb : Blk W1 g t cs) (hne : g ≠ R) (hv : cs[k]? = some v) : w'.cell? ⟨g, k, none⟩ = some v := (cell_of_row w' g k _ _ _ (h.blk hb hne)).trans hv
theorem HeldR.start {W1 : World} {R : Nat} {t : TypeId} {cs : Array Value} (hs : cs.size = 4) (h : Blk W1 R t cs) : HeldR W1 R W1.drew := ⟨grown_drew (grown_refl W1 R), t, cs, hs, h⟩
theorem HeldR.call {W1 w' w'' : World} {R : Nat} (k : Below w'.heap.size w' w'') (h : HeldR W1 R w') : HeldR W1 R w'' := by
  obtain ⟨hg, t, cs, hs, hb⟩ := h
  exact ⟨grown_below hg k, t, cs, hs, hb.block_below k⟩
theorem HeldR.set {W1 w' : World} {R : Nat} (h : HeldR W1 R w') (k : Nat) (v : Value) : HeldR W1 R (w'.setCell ⟨R, k, none⟩ v) := by
  obtain ⟨hg, t, cs, hs, hb⟩ := h
  exact ⟨grown_set' hg k v, t, cs.setIfInBounds k v, by simpa using hs, heap_setCell_same w' R k _ _ _ hb⟩
theorem HeldR.below {w W1 w' : World} {R n : Nat} (h : HeldR W1 R w') (hb : Below n w W1) (hn : n ≤ w.heap.size) (hR : n ≤ R) : Below n w w' := step_world hb h.1 hn hR

theorem sign2_at3 (a b : Nat) (w : World) (o1 o2 o3 : Obj) : Calls Try.prog 27 #[.slice (some ⟨w.heap.size + 1 + 1 + 1, 0, none⟩) 2 2] ((((w.alloc o1).alloc o2).alloc o3).alloc (.cells #[.int .u64 (lb a 0), .int .u64 (lb a 1), .int .u64 (lb a 2), .int .u64 (lb a 3), .int .u64 (lb b 0), .int .u64 (lb b 1), .int .u64 (lb b 2), .int .u64 (lb b 3)] 24)) fun e w' => e = .returned (.agg #[.bool (ngN a), .bool (ngN b)]) ∧ Below (((w.alloc o1).alloc o2).alloc o3).heap.size (((w.alloc o1).alloc o2).alloc o3) w' := by
  have h := sign2_new a b (((w.alloc o1).alloc o2).alloc o3)
  rw [World.size_alloc, World.size_alloc, World.size_alloc] at h
  rw [World.size_alloc, World.size_alloc, World.size_alloc]
  exact h
attribute [local irreducible] lb tnN mdN
set_option maxRecDepth 100000 in
set_option maxHeartbeats 2000000 in
theorem sdiv_any (a b : Nat) (ha : a < MM) (hb : b < MM) (w : World) :
    Calls Try.prog 13 #[W a, W b] w fun e w' => e = .returned (W (sdN a b)) ∧ Below w.heap.size w w' := by
  unfold sdN
  have hA := tn_lt a ha
  have hB := tn_lt b hb
  have h2 := sign2_at3 a b w (.cells (Wc a) 24) (.cells (Wc b) 24) (.cells #[.int .u64 0, .int .u64 0, .int .u64 0, .int .u64 0] 24)
  obtain ⟨x, hx⟩ : ∃ x, ngN a = x := ⟨_, rfl⟩
  obtain ⟨y, hy⟩ : ∃ y, ngN b = y := ⟨_, rfl⟩
  rw [hx] at hA
  rw [hy] at hB
  rw [hx, hy] at h2
  rw [hx, hy]
  have HS := Lib.hid h2
  have HA := Lib.hid hA
  have HB := Lib.hid hB
  clear h2 hx hy ha hb hA hB
  have A : Blk (((w.alloc (.cells (Wc a) 24)).alloc (.cells (Wc b) 24)).alloc (.cells #[.int .u64 0, .int .u64 0, .int .u64 0, .int .u64 0] 24)) w.heap.size 24 (Wc a) := ((Blk.new _ _ _).alloc _).alloc _
  have B : Blk (((w.alloc (.cells (Wc a) 24)).alloc (.cells (Wc b) 24)).alloc (.cells #[.int .u64 0, .int .u64 0, .int .u64 0, .int .u64 0] 24)) (w.heap.size + 1) 24 (Wc b) := (Blk.newS w _ _ _).alloc _
  have R : Blk (((w.alloc (.cells (Wc a) 24)).alloc (.cells (Wc b) 24)).alloc (.cells #[.int .u64 0, .int .u64 0, .int .u64 0, .int .u64 0] 24)) (w.heap.size + 1 + 1) 24 #[.int .u64 0, .int .u64 0, .int .u64 0, .int .u64 0] := by
    have h := Blk.newS (w.alloc (.cells (Wc a) 24)) (.cells (Wc b) 24) 24 #[.int .u64 0, .int .u64 0, .int .u64 0, .int .u64 0]
    rwa [World.size_alloc] at h
  have hW : Below w.heap.size w (((w.alloc (.cells (Wc a) 24)).alloc (.cells (Wc b) 24)).alloc (.cells #[.int .u64 0, .int .u64 0, .int .u64 0, .int .u64 0] 24)) := balloc (balloc (balloc (Below.refl _ _) _) _) _
  have HA1 := Lib.hid A
  have HB1 := Lib.hid B
  have HR1 := Lib.hid R
  have HW1 := Lib.hid hW
  clear A B R hW
  go_enter Try.func13, Try.ntmps13
  go_wp2_with fail
  refine HS.out.mono ?_
  rintro e W0 ⟨rfl, hk⟩
  have A := (HA1.out.block_below hk).alloc (.cells #[.bool x, .bool y] 56)
  have B := (HB1.out.block_below hk).alloc (.cells #[.bool x, .bool y] 56)
  have R := HR1.out.block_below hk
  have hsn : w.heap.size + 1 + 1 < W0.heap.size := R.lt
  have R := R.alloc (.cells #[.bool x, .bool y] 56)
  have S := Blk.new W0 56 #[.bool x, .bool y]
  have hW := balloc (bstep HW1.out hk) (.cells #[.bool x, .bool y] 56)
  clear HA1 HB1 HR1 HW1 hk HS
  go_upto_region 0 with fail
  obtain ⟨W1, hW1⟩ : ∃ W1, W0.alloc (.cells #[.bool x, .bool y] 56) = W1 := ⟨_, rfl⟩
  rw [hW1] at A B R S hW ⊢
  clear hW1
  generalize W0.heap.size = sn at S hsn ⊢
  have cA0 : ∀ w', HeldR W1 (w.heap.size + 1 + 1) w' → w'.cell? ⟨w.heap.size, 0, none⟩ = some (.int .u64 (lb a 0)) := fun w' h => h.at A (by omega) rfl
  have cA1 : ∀ w', HeldR W1 (w.heap.size + 1 + 1) w' → w'.cell? ⟨w.heap.size, 1, none⟩ = some (.int .u64 (lb a 1)) := fun w' h => h.at A (by omega) rfl
  have cA2 : ∀ w', HeldR W1 (w.heap.size + 1 + 1) w' → w'.cell? ⟨w.heap.size, 2, none⟩ = some (.int .u64 (lb a 2)) := fun w' h => h.at A (by omega) rfl
  have cA3 : ∀ w', HeldR W1 (w.heap.size + 1 + 1) w' → w'.cell? ⟨w.heap.size, 3, none⟩ = some (.int .u64 (lb a 3)) := fun w' h => h.at A (by omega) rfl
  have cB0 : ∀ w', HeldR W1 (w.heap.size + 1 + 1) w' → w'.cell? ⟨w.heap.size + 1, 0, none⟩ = some (.int .u64 (lb b 0)) := fun w' h => h.at B (by omega) rfl
  have cB1 : ∀ w', HeldR W1 (w.heap.size + 1 + 1) w' → w'.cell? ⟨w.heap.size + 1, 1, none⟩ = some (.int .u64 (lb b 1)) := fun w' h => h.at B (by omega) rfl
  have cB2 : ∀ w', HeldR W1 (w.heap.size + 1 + 1) w' → w'.cell? ⟨w.heap.size + 1, 2, none⟩ = some (.int .u64 (lb b 2)) := fun w' h => h.at B (by omega) rfl
  have cB3 : ∀ w', HeldR W1 (w.heap.size + 1 + 1) w' → w'.cell? ⟨w.heap.size + 1, 3, none⟩ = some (.int .u64 (lb b 3)) := fun w' h => h.at B (by omega) rfl
  have cS0 : ∀ w', HeldR W1 (w.heap.size + 1 + 1) w' → w'.cell? ⟨sn, 0, none⟩ = some (.bool x) := fun w' h => h.at S (by omega) rfl
  have cS1 : ∀ w', HeldR W1 (w.heap.size + 1 + 1) w' → w'.cell? ⟨sn, 1, none⟩ = some (.bool y) := fun w' h => h.at S (by omega) rfl
  have cR0 : ∀ w', HeldR W1 (w.heap.size + 1 + 1) w' → w'.cell? ⟨w.heap.size + 1 + 1, 0, none⟩ = some (cellv w' ⟨w.heap.size + 1 + 1, 0, none⟩) := fun w' h => h.cell 0 (by omega)
  have fR0 : ∀ w', HeldR W1 (w.heap.size + 1 + 1) w' → w'.frozen? ⟨w.heap.size + 1 + 1, 0, none⟩ = false := fun w' h => h.frozen 0
  have cR1 : ∀ w', HeldR W1 (w.heap.size + 1 + 1) w' → w'.cell? ⟨w.heap.size + 1 + 1, 1, none⟩ = some (cellv w' ⟨w.heap.size + 1 + 1, 1, none⟩) := fun w' h => h.cell 1 (by omega)
  have fR1 : ∀ w', HeldR W1 (w.heap.size + 1 + 1) w' → w'.frozen? ⟨w.heap.size + 1 + 1, 1, none⟩ = false := fun w' h => h.frozen 1
  have cR2 : ∀ w', HeldR W1 (w.heap.size + 1 + 1) w' → w'.cell? ⟨w.heap.size + 1 + 1, 2, none⟩ = some (cellv w' ⟨w.heap.size + 1 + 1, 2, none⟩) := fun w' h => h.cell 2 (by omega)
  have fR2 : ∀ w', HeldR W1 (w.heap.size + 1 + 1) w' → w'.frozen? ⟨w.heap.size + 1 + 1, 2, none⟩ = false := fun w' h => h.frozen 2
  have cR3 : ∀ w', HeldR W1 (w.heap.size + 1 + 1) w' → w'.cell? ⟨w.heap.size + 1 + 1, 3, none⟩ = some (cellv w' ⟨w.heap.size + 1 + 1, 3, none⟩) := fun w' h => h.cell 3 (by omega)
  have fR3 : ∀ w', HeldR W1 (w.heap.size + 1 + 1) w' → w'.frozen? ⟨w.heap.size + 1 + 1, 3, none⟩ = false := fun w' h => h.frozen 3
  have h0 : HeldR W1 (w.heap.size + 1 + 1) W1.drew := HeldR.start rfl R
  have HW := Lib.hid hW
  clear A B R S hW hsn
  go_region_held3 (fun w' => HeldR W1 (w.heap.size + 1 + 1) w') (first | assumption | exact HeldR.call (by assumption) (by assumption) | exact HeldR.set (HeldR.set (HeldR.set (HeldR.set (by assumption) _ _) _ _) _ _) _ _)
    (first
      | (go_at_call 28; refine (turned_t _ _ _).mono ?_; rintro e wk ⟨rfl, hk⟩; have hH : HeldR W1 (w.heap.size + 1 + 1) wk := HeldR.call hk (by assumption))
      | (go_at_call 11; refine (div_all _ _ HA.out HB.out _).mono ?_; rintro e wk ⟨rfl, hk⟩; have hH : HeldR W1 (w.heap.size + 1 + 1) wk := HeldR.call hk (by assumption)))
  all_goals
    go_wp2
    exact bodyPost_ret (v := W (tnN (tnN a x / tnN b y) (!(x == y)))) (by simp [results, Try.results13, go_sem, cR0 _ hH, cR1 _ hH, cR2 _ hH, cR3 _ hH]) rfl ⟨rfl, HeldR.below (by assumption) HW.out (Nat.le_refl _) (by omega)⟩

set_option maxRecDepth 100000 in
set_option maxHeartbeats 2000000 in
theorem smod_any (a b : Nat) (ha : a < MM) (hb : b < MM) (w : World) :
    Calls Try.prog 15 #[W a, W b] w fun e w' => e = .returned (W (smN a b)) ∧ Below w.heap.size w w' := by
  unfold smN
  have hA := tn_lt a ha
  have hB := tn_lt b hb
  have h2 := sign2_at3 a b w (.cells (Wc a) 24) (.cells (Wc b) 24) (.cells #[.int .u64 0, .int .u64 0, .int .u64 0, .int .u64 0] 24)
  obtain ⟨x, hx⟩ : ∃ x, ngN a = x := ⟨_, rfl⟩
  obtain ⟨y, hy⟩ : ∃ y, ngN b = y := ⟨_, rfl⟩
  rw [hx] at hA
  rw [hy] at hB
  rw [hx, hy] at h2
  rw [hx, hy]
  have HS := Lib.hid h2
  have HA := Lib.hid hA
  have HB := Lib.hid hB
  clear h2 hx hy ha hb hA hB
  have A : Blk (((w.alloc (.cells (Wc a) 24)).alloc (.cells (Wc b) 24)).alloc (.cells #[.int .u64 0, .int .u64 0, .int .u64 0, .int .u64 0] 24)) w.heap.size 24 (Wc a) := ((Blk.new _ _ _).alloc _).alloc _
  have B : Blk (((w.alloc (.cells (Wc a) 24)).alloc (.cells (Wc b) 24)).alloc (.cells #[.int .u64 0, .int .u64 0, .int .u64 0, .int .u64 0] 24)) (w.heap.size + 1) 24 (Wc b) := (Blk.newS w _ _ _).alloc _
  have R : Blk (((w.alloc (.cells (Wc a) 24)).alloc (.cells (Wc b) 24)).alloc (.cells #[.int .u64 0, .int .u64 0, .int .u64 0, .int .u64 0] 24)) (w.heap.size + 1 + 1) 24 #[.int .u64 0, .int .u64 0, .int .u64 0, .int .u64 0] := by
    have h := Blk.newS (w.alloc (.cells (Wc a) 24)) (.cells (Wc b) 24) 24 #[.int .u64 0, .int .u64 0, .int .u64 0, .int .u64 0]
    rwa [World.size_alloc] at h
  have hW : Below w.heap.size w (((w.alloc (.cells (Wc a) 24)).alloc (.cells (Wc b) 24)).alloc (.cells #[.int .u64 0, .int .u64 0, .int .u64 0, .int .u64 0] 24)) := balloc (balloc (balloc (Below.refl _ _) _) _) _
  have HA1 := Lib.hid A
  have HB1 := Lib.hid B
  have HR1 := Lib.hid R
  have HW1 := Lib.hid hW
  clear A B R hW
  go_enter Try.func15, Try.ntmps15
  go_wp2_with fail
  refine HS.out.mono ?_
  rintro e W0 ⟨rfl, hk⟩
  have A := (HA1.out.block_below hk).alloc (.cells #[.bool x, .bool y] 56)
  have B := (HB1.out.block_below hk).alloc (.cells #[.bool x, .bool y] 56)
  have R := HR1.out.block_below hk
  have hsn : w.heap.size + 1 + 1 < W0.heap.size := R.lt
  have R := R.alloc (.cells #[.bool x, .bool y] 56)
  have S := Blk.new W0 56 #[.bool x, .bool y]
  have hW := balloc (bstep HW1.out hk) (.cells #[.bool x, .bool y] 56)
  clear HA1 HB1 HR1 HW1 hk HS
  go_upto_region 0 with fail
  obtain ⟨W1, hW1⟩ : ∃ W1, W0.alloc (.cells #[.bool x, .bool y] 56) = W1 := ⟨_, rfl⟩
  rw [hW1] at A B R S hW ⊢
  clear hW1
  generalize W0.heap.size = sn at S hsn ⊢
  have cA0 : ∀ w', HeldR W1 (w.heap.size + 1 + 1) w' → w'.cell? ⟨w.heap.size, 0, none⟩ = some (.int .u64 (lb a 0)) := fun w' h => h.at A (by omega) rfl
  have cA1 : ∀ w', HeldR W1 (w.heap.size + 1 + 1) w' → w'.cell? ⟨w.heap.size, 1, none⟩ = some (.int .u64 (lb a 1)) := fun w' h => h.at A (by omega) rfl
  have cA2 : ∀ w', HeldR W1 (w.heap.size + 1 + 1) w' → w'.cell? ⟨w.heap.size, 2, none⟩ = some (.int .u64 (lb a 2)) := fun w' h => h.at A (by omega) rfl
  have cA3 : ∀ w', HeldR W1 (w.heap.size + 1 + 1) w' → w'.cell? ⟨w.heap.size, 3, none⟩ = some (.int .u64 (lb a 3)) := fun w' h => h.at A (by omega) rfl
  have cB0 : ∀ w', HeldR W1 (w.heap.size + 1 + 1) w' → w'.cell? ⟨w.heap.size + 1, 0, none⟩ = some (.int .u64 (lb b 0)) := fun w' h => h.at B (by omega) rfl
  have cB1 : ∀ w', HeldR W1 (w.heap.size + 1 + 1) w' → w'.cell? ⟨w.heap.size + 1, 1, none⟩ = some (.int .u64 (lb b 1)) := fun w' h => h.at B (by omega) rfl
  have cB2 : ∀ w', HeldR W1 (w.heap.size + 1 + 1) w' → w'.cell? ⟨w.heap.size + 1, 2, none⟩ = some (.int .u64 (lb b 2)) := fun w' h => h.at B (by omega) rfl
  have cB3 : ∀ w', HeldR W1 (w.heap.size + 1 + 1) w' → w'.cell? ⟨w.heap.size + 1, 3, none⟩ = some (.int .u64 (lb b 3)) := fun w' h => h.at B (by omega) rfl
  have cS0 : ∀ w', HeldR W1 (w.heap.size + 1 + 1) w' → w'.cell? ⟨sn, 0, none⟩ = some (.bool x) := fun w' h => h.at S (by omega) rfl
  have cS1 : ∀ w', HeldR W1 (w.heap.size + 1 + 1) w' → w'.cell? ⟨sn, 1, none⟩ = some (.bool y) := fun w' h => h.at S (by omega) rfl
  have cR0 : ∀ w', HeldR W1 (w.heap.size + 1 + 1) w' → w'.cell? ⟨w.heap.size + 1 + 1, 0, none⟩ = some (cellv w' ⟨w.heap.size + 1 + 1, 0, none⟩) := fun w' h => h.cell 0 (by omega)
  have fR0 : ∀ w', HeldR W1 (w.heap.size + 1 + 1) w' → w'.frozen? ⟨w.heap.size + 1 + 1, 0, none⟩ = false := fun w' h => h.frozen 0
  have cR1 : ∀ w', HeldR W1 (w.heap.size + 1 + 1) w' → w'.cell? ⟨w.heap.size + 1 + 1, 1, none⟩ = some (cellv w' ⟨w.heap.size + 1 + 1, 1, none⟩) := fun w' h => h.cell 1 (by omega)
  have fR1 : ∀ w', HeldR W1 (w.heap.size + 1 + 1) w' → w'.frozen? ⟨w.heap.size + 1 + 1, 1, none⟩ = false := fun w' h => h.frozen 1
  have cR2 : ∀ w', HeldR W1 (w.heap.size + 1 + 1) w' → w'.cell? ⟨w.heap.size + 1 + 1, 2, none⟩ = some (cellv w' ⟨w.heap.size + 1 + 1, 2, none⟩) := fun w' h => h.cell 2 (by omega)
  have fR2 : ∀ w', HeldR W1 (w.heap.size + 1 + 1) w' → w'.frozen? ⟨w.heap.size + 1 + 1, 2, none⟩ = false := fun w' h => h.frozen 2
  have cR3 : ∀ w', HeldR W1 (w.heap.size + 1 + 1) w' → w'.cell? ⟨w.heap.size + 1 + 1, 3, none⟩ = some (cellv w' ⟨w.heap.size + 1 + 1, 3, none⟩) := fun w' h => h.cell 3 (by omega)
  have fR3 : ∀ w', HeldR W1 (w.heap.size + 1 + 1) w' → w'.frozen? ⟨w.heap.size + 1 + 1, 3, none⟩ = false := fun w' h => h.frozen 3
  have h0 : HeldR W1 (w.heap.size + 1 + 1) W1.drew := HeldR.start rfl R
  have HW := Lib.hid hW
  clear A B R S hW hsn
  go_region_held3 (fun w' => HeldR W1 (w.heap.size + 1 + 1) w') (first | assumption | exact HeldR.call (by assumption) (by assumption) | exact HeldR.set (HeldR.set (HeldR.set (HeldR.set (by assumption) _ _) _ _) _ _) _ _)
    (first
      | (go_at_call 28; refine (turned_t _ _ _).mono ?_; rintro e wk ⟨rfl, hk⟩; have hH : HeldR W1 (w.heap.size + 1 + 1) wk := HeldR.call hk (by assumption))
      | (go_at_call 12; refine (mod_all _ _ HA.out HB.out _).mono ?_; rintro e wk ⟨rfl, hk⟩; have hH : HeldR W1 (w.heap.size + 1 + 1) wk := HeldR.call hk (by assumption)))
  all_goals
    go_wp2
    exact bodyPost_ret (v := W (tnN (mdN (tnN a x) (tnN b y)) x)) (by simp [results, Try.results15, go_sem, cR0 _ hH, cR1 _ hH, cR2 _ hH, cR3 _ hH]) rfl ⟨rfl, HeldR.below (by assumption) HW.out (Nat.le_refl _) (by omega)⟩
end Go.Proofs.Ythdapmceafnhgaa
