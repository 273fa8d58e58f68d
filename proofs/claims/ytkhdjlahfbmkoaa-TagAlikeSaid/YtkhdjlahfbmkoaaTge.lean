/- tag: Part, Cells; values in boxes. -/
import Derived.Test.YtkhdjlahfbmkoaaTgd
namespace Go.Proofs.Ytkhdjlahfbmkoaa
open Go.RowKit Go.Shelf

def PJ9 (w : World) (a : Act) (X : World) : Prop := X = w ∧ ∃ x0 x1 x2 x3 x4 x5 x6 x7 x8 x9 x10 x11 x12 x13 x14 x15 x16 x17 x18 x19 x20 x21 x22 : Value, a = ⟨#[x0, x1, x2, x3, x4, x5, x6, x7, x8, x9, x10, x11, x12, x13, x14, x15, x16, x17, x18, x19, x20, x21, x22], []⟩
set_option maxRecDepth 100000 in
set_option maxHeartbeats 1000000 in
theorem part_bad (v : Value) (at_ many : Int) (hlo : -9223372036854775808 ≤ at_ ∧ at_ < 9223372036854775808) (hlm : -9223372036854775808 ≤ many ∧ many < 9223372036854775808) (hbad : at_ < 0 ∨ many < 0 ∨ 65536 < many) (w : World) :
    Calls Try.prog 21 #[v, .int .i64 at_, .int .i64 many] w fun e w' => e = .returned (.tuple #[.slice none 0 0, .int .i64 2]) ∧ w = w' := by
  by_cases h1 : at_ < 0
  · clear hbad hlo hlm
    go_enter Try.func21, Try.ntmps21
    go_wp2_with fail
    refine wp_scope_jumps 0 (PJ9 w) (fun _ _ => 0) rfl ?first ?pass
    case first =>
      go_wp2_with fail
      go_step3
      exact ⟨rfl, rfl, _, _, _, _, _, _, _, _, _, _, _, _, _, _, _, _, _, _, _, _, _, _, _, rfl⟩
    case pass =>
      rintro a X ⟨rfl, x0, x1, x2, x3, x4, x5, x6, x7, x8, x9, x10, x11, x12, x13, x14, x15, x16, x17, x18, x19, x20, x21, x22, rfl⟩
      go_wp2_with fail
      simp only [Exit.jump]
      go_ret2
      exact ⟨rfl, rfl⟩
  · by_cases h2 : many < 0
    · clear hbad hlo hlm
      go_enter Try.func21, Try.ntmps21
      go_wp2_with fail
      refine wp_scope_jumps 0 (PJ9 w) (fun _ _ => 0) rfl ?first ?pass
      case first =>
        go_wp2_with fail
        go_step3
        exact ⟨rfl, rfl, _, _, _, _, _, _, _, _, _, _, _, _, _, _, _, _, _, _, _, _, _, _, _, rfl⟩
      case pass =>
        rintro a X ⟨rfl, x0, x1, x2, x3, x4, x5, x6, x7, x8, x9, x10, x11, x12, x13, x14, x15, x16, x17, x18, x19, x20, x21, x22, rfl⟩
        go_wp2_with fail
        simp only [Exit.jump]
        go_ret2
        exact ⟨rfl, rfl⟩
    · have h3 : 65536 < many := by omega
      clear hbad hlo hlm
      go_enter Try.func21, Try.ntmps21
      go_wp2_with fail
      refine wp_scope_jumps 0 (PJ9 w) (fun _ _ => 0) rfl ?first ?pass
      case first =>
        go_wp2_with fail
        go_step3
        exact ⟨rfl, rfl, _, _, _, _, _, _, _, _, _, _, _, _, _, _, _, _, _, _, _, _, _, _, _, rfl⟩
      case pass =>
        rintro a X ⟨rfl, x0, x1, x2, x3, x4, x5, x6, x7, x8, x9, x10, x11, x12, x13, x14, x15, x16, x17, x18, x19, x20, x21, x22, rfl⟩
        go_wp2_with fail
        simp only [Exit.jump]
        go_ret2
        exact ⟨rfl, rfl⟩
set_option maxRecDepth 100000 in
set_option maxHeartbeats 1000000 in
theorem part_any (B : Nat) (v : Value) (l : List (Nat × Nat)) (at_ many : Nat) (hm : many ≤ 65536) (w : World) (hB : B ≤ w.heap.size) (hv : Cs B w v l) :
    Calls Try.prog 21 #[v, .int .i64 at_, .int .i64 many] w fun e w' => ∃ g, e = .returned (.tuple #[.slice (some ⟨g, 0, none⟩) many many, .int .i64 0]) ∧ w.heap.size ≤ g ∧ Blk w' g 53 (cvs (paL l at_ many)).toArray ∧ Below w.heap.size w w' := by
  have HF := Lib.hid (from_any B at_ many (by omega) v l w hB hv)
  have h1 : ¬ (at_ : Int) < 0 := by omega
  have h2 : ¬ (many : Int) < 0 := by omega
  have h3 : ¬ (65536 : Int) < (many : Int) := by omega
  obtain ⟨x, c, rfl⟩ := hv.is
  clear hv hB hm
  go_enter Try.func21, Try.ntmps21
  go_wp2_with fail
  refine wp_scope_jumps 0 (fun _ _ => False) (fun _ _ => 0) rfl ?first ?pass
  case pass => intro a w h; exact h.elim
  case first =>
    go_wp2_with (first | (go_at_call 43; refine (HF.out).mono ?_; rintro e w1 ⟨g, rfl, hg⟩; have HG := Lib.hid hg; clear hg))
    (try simp only [Exit.jump])
    go_ret2
    exact ⟨g, rfl, HG.out⟩
/-- A value. -/
abbrev vV (n a : Nat) : Value := .agg #[.int .u64 (lb n 0), .int .u64 (lb n 1), .int .u64 (lb n 2), .int .u64 (lb n 3), .int .u64 (a : Nat)]
abbrev vA (n a : Nat) : Array Value := #[.int .u64 (lb n 0), .int .u64 (lb n 1), .int .u64 (lb n 2), .int .u64 (lb n 3), .int .u64 (a : Nat)]
/-- A word's bytes. -/
def byL (n : Nat) : List Nat := (List.range 32).map fun p => byA n (31 - p)
theorem byL_len (n : Nat) : (byL n).length = 32 := by unfold byL; simp
theorem byL_lt (n : Nat) : ∀ x ∈ byL n, x < 256 := fun x hx => by
  unfold byL at hx
  obtain ⟨p, _, rfl⟩ := List.mem_map.1 hx
  exact byA_lt _ _
theorem byL_cells (n : Nat) : byC n 32 = (bvs (byL n)).toArray := by
  apply Array.ext_getElem?
  intro p
  by_cases hp : p < 32
  · rw [byC_get _ _ _ hp, if_pos (by omega), List.getElem?_toArray, bvs_get]
    unfold byL
    rw [List.getElem?_map, List.getElem?_range hp]; rfl
  · rw [Array.getElem?_eq_none (by rw [byC_size]; omega), Array.getElem?_eq_none (by simp [bvs_len, byL_len]; omega)]
theorem Bto.of_row {X : World} {g : Nat} {t : TypeId} {l : List Nat} (h : Blk X g t (bvs l).toArray) (h1 : ∀ x ∈ l, x < 256) (hl : l.length ≤ 9223372036854775807) : Bto X.heap.size X (.slice (some ⟨g, 0, none⟩) l.length l.length) l :=
  ⟨h1, _, _, rfl, Nat.le_refl _, hl, fun _ => ⟨g, 0, rfl, h.lt, h.lt, fun k u hu => by
    rw [Nat.zero_add, cell_of_row _ _ k _ _ _ h, List.getElem?_toArray, bvs_get, hu]; rfl⟩⟩
/-- The cells of a value. -/
def ceL (n a : Nat) : List (Nat × Nat) := (byL n).map fun x => (x, a)
theorem ceL_len (n a : Nat) : (ceL n a).length = 32 := by unfold ceL; rw [List.length_map, byL_len]
theorem ceL_ok (n a : Nat) (ha : a < 18446744073709551616) : ∀ c ∈ ceL n a, okC c := fun c hc => by
  unfold ceL at hc
  obtain ⟨x, hx, rfl⟩ := List.mem_map.1 hc
  exact ⟨byL_lt n x hx, ha⟩
set_option maxRecDepth 100000 in
set_option maxHeartbeats 1000000 in
theorem tcells_any (n a : Nat) (ha : a < 2 ^ 64) (w : World) :
    Calls Try.prog 17 #[vV n a] w fun e w' => ∃ g, e = .returned (.slice (some ⟨g, 0, none⟩) 32 32) ∧ w.heap.size ≤ g ∧ Blk w' g 53 (cvs (ceL n a)).toArray ∧ Below w.heap.size w w' := by
  obtain ⟨W9, hW⟩ : ∃ W9, w.alloc (.cells (vA n a) 29) = W9 := ⟨_, rfl⟩
  have hal : Below w.heap.size w W9 := by rw [← hW]; exact balloc (Below.refl w.heap.size w) _
  have hN : Blk W9 w.heap.size 29 (vA n a) := by rw [← hW]; exact Blk.new w _ _
  have l0 : ∀ w', Below W9.heap.size W9 w' → w'.cell? ⟨w.heap.size, 0, none⟩ = some (.int .u64 (lb n 0)) := fun w' h => cell_of_row _ _ 0 _ _ _ (hN.keep h)
  have l1 : ∀ w', Below W9.heap.size W9 w' → w'.cell? ⟨w.heap.size, 1, none⟩ = some (.int .u64 (lb n 1)) := fun w' h => cell_of_row _ _ 1 _ _ _ (hN.keep h)
  have l2 : ∀ w', Below W9.heap.size W9 w' → w'.cell? ⟨w.heap.size, 2, none⟩ = some (.int .u64 (lb n 2)) := fun w' h => cell_of_row _ _ 2 _ _ _ (hN.keep h)
  have l3 : ∀ w', Below W9.heap.size W9 w' → w'.cell? ⟨w.heap.size, 3, none⟩ = some (.int .u64 (lb n 3)) := fun w' h => cell_of_row _ _ 3 _ _ _ (hN.keep h)
  have l4 : ∀ w', Below W9.heap.size W9 w' → w'.cell? ⟨w.heap.size, 4, none⟩ = some (.int .u64 (a : Nat)) := fun w' h => cell_of_row _ _ 4 _ _ _ (hN.keep h)
  have h0 : Below W9.heap.size W9 W9.drew := (Below.refl _ _).drew
  have HW := Lib.hid (And.intro hW hal)
  have HO := Lib.hid (fun (Y : World) (g : Nat) (h : Blk Y g 5 (byC n 32)) => by
    have h1 := tof_any Y.heap.size a ha (.slice (some ⟨g, 0, none⟩) 32 32) (byL n) (by rw [byL_len]; omega) Y (by
      rw [byL_cells] at h
      have h2 := Bto.of_row h (byL_lt n) (by rw [byL_len]; omega)
      rwa [byL_len] at h2)
    rw [byL_len] at h1
    exact h1)
  clear hW hal hN ha
  go_enter Try.func17, Try.ntmps17
  go_upto_region 1 with fail
  rw [HW.out.1]
  go_region_held3 (fun w' => Below W9.heap.size W9 w') (first | assumption | exact rstep (by assumption) (by assumption)) (first
    | (go_at_call 41; refine (bytes_any n _).mono ?_; rintro e w1 ⟨rfl, hb1, hw1⟩; have hS : Below W9.heap.size W9 w1 := rstep hw1 (by assumption); have HB1 := Lib.hid hb1; clear hb1)
    | (go_at_call 9; refine (HO.out _ _ HB1.out).mono ?_; rintro e w2 ⟨g, rfl, hg, hb2, hw2⟩; have HS := Lib.hid hS; have HB2 := Lib.hid (And.intro hg hb2); have hS2 : Below W9.heap.size W9 w2 := rstep hw2 HS.out))
  all_goals
    go_wp2_with fail
    go_ret
    have hs1 := HW.out.2.size
    have hs2 := HS.out.size
    have hg2 := HB2.out.1
    exact ⟨_, rfl, by omega, HB2.out.2, bstep HW.out.2 (by assumption)⟩
end Go.Proofs.Ytkhdjlahfbmkoaa
