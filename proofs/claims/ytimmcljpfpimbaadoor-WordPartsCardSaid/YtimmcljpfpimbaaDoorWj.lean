/- The chapter's rows (exciselaw01.works): what each call comes to, and that all of them hold. -/
import Derived.Test.YtimmcljpfpimbaaDoorWi
import Derived.Deep.RegionHeld3
namespace Go.Proofs.YtimmcljpfpimbaaDoor
open Go.RowKit

theorem W_lit (n : Nat) (a b c d : Int) (h0 : lb n 0 = a) (h1 : lb n 1 = b) (h2 : lb n 2 = c) (h3 : lb n 3 = d) : W n = .agg #[.int .u64 a, .int .u64 b, .int .u64 c, .int .u64 d] := by unfold W; rw [h0, h1, h2, h3]
theorem W_1 : W 1 = .agg #[.int .u64 1, .int .u64 0, .int .u64 0, .int .u64 0] := W_lit 1 1 0 0 0 (by decide +kernel) (by decide +kernel) (by decide +kernel) (by decide +kernel)
theorem W_2 : W 2 = .agg #[.int .u64 2, .int .u64 0, .int .u64 0, .int .u64 0] := W_lit 2 2 0 0 0 (by decide +kernel) (by decide +kernel) (by decide +kernel) (by decide +kernel)
theorem W_255 : W 255 = .agg #[.int .u64 255, .int .u64 0, .int .u64 0, .int .u64 0] := W_lit 255 255 0 0 0 (by decide +kernel) (by decide +kernel) (by decide +kernel) (by decide +kernel)
theorem W_256 : W 256 = .agg #[.int .u64 256, .int .u64 0, .int .u64 0, .int .u64 0] := W_lit 256 256 0 0 0 (by decide +kernel) (by decide +kernel) (by decide +kernel) (by decide +kernel)
theorem W_half : W (B64 * B64) = .agg #[.int .u64 0, .int .u64 0, .int .u64 1, .int .u64 0] := W_lit _ 0 0 1 0 (by decide +kernel) (by decide +kernel) (by decide +kernel) (by decide +kernel)
theorem W_half2 : W (B64 * B64 * (B64 * B64)) = .agg #[.int .u64 0, .int .u64 0, .int .u64 0, .int .u64 0] := W_lit _ 0 0 0 0 (by decide +kernel) (by decide +kernel) (by decide +kernel) (by decide +kernel)
theorem W_m1 : W (sb 0 1) = .agg #[.int .u64 18446744073709551615, .int .u64 18446744073709551615, .int .u64 18446744073709551615, .int .u64 18446744073709551615] := W_lit _ _ _ _ _ (by decide +kernel) (by decide +kernel) (by decide +kernel) (by decide +kernel)
theorem W_wrap : W (sumN (fun k => if k = 0 then sb 0 1 else 1) 2) = .agg #[.int .u64 0, .int .u64 0, .int .u64 0, .int .u64 0] := W_lit _ 0 0 0 0 (by decide +kernel) (by decide +kernel) (by decide +kernel) (by decide +kernel)

theorem of_int (z : Int) (w : World) :
    Calls Tryd.prog 19 #[.int .u64 z] w fun e w' => e = .returned (.agg #[.int .u64 z, .int .u64 0, .int .u64 0, .int .u64 0]) ∧ Below w.heap.size w w' := by
  go_enter Tryd.func19, Tryd.ntmps19
  go_wp2
  exact bodyPost_ret (v := .agg #[.int .u64 z, .int .u64 0, .int .u64 0, .int .u64 0]) (by simp [results, Tryd.results19, go_sem]) rfl ⟨rfl, (Below.refl _ _).alloc (Nat.le_refl _) _⟩

theorem sub_works (w : World) :
    Calls Tryd.prog 13 #[.agg #[.int .u64 0, .int .u64 0, .int .u64 0, .int .u64 0], .agg #[.int .u64 1, .int .u64 0, .int .u64 0, .int .u64 0]] w fun e w' => e = .returned (.agg #[.int .u64 18446744073709551615, .int .u64 18446744073709551615, .int .u64 18446744073709551615, .int .u64 18446744073709551615]) ∧ Below w.heap.size w w' := by
  have h := sub_any 0 1 w
  rwa [W_zero, W_1, W_m1] at h
theorem mul_works (w : World) :
    Calls Tryd.prog 15 #[.agg #[.int .u64 0, .int .u64 0, .int .u64 1, .int .u64 0], .agg #[.int .u64 0, .int .u64 0, .int .u64 1, .int .u64 0]] w fun e w' => e = .returned (.agg #[.int .u64 0, .int .u64 0, .int .u64 0, .int .u64 0]) ∧ Below w.heap.size w w' := by
  have h := mul_any (B64 * B64) (B64 * B64) w
  rwa [W_half2, W_half] at h
theorem order_works (w : World) :
    Calls Tryd.prog 17 #[.agg #[.int .u64 1, .int .u64 0, .int .u64 0, .int .u64 0], .agg #[.int .u64 2, .int .u64 0, .int .u64 0, .int .u64 0]] w fun e w' => e = .returned (.int .i64 (-1)) ∧ Below w.heap.size w w' := by
  have h := order_any 1 2 (by rw [MM_eq]; omega) (by rw [MM_eq]; omega) w
  rwa [W_1, W_2, show cmpN 1 2 = -1 from rfl] at h
theorem text_works (w : World) :
    Calls Tryd.prog 24 #[.agg #[.int .u64 255, .int .u64 0, .int .u64 0, .int .u64 0]] w fun e w' => e = .returned (.string ⟨#[48, 120, 102, 102]⟩) ∧ Below w.heap.size w w' := by
  have h := text_any 255 w
  rwa [W_255, show txtL 255 = [48, 120, 102, 102] from by decide +kernel] at h
theorem add_works (b cap : Nat) (w : World) (hb : b < w.heap.size)
    (hc : (w.cell? ⟨b, 0, none⟩ = some (.int .u64 18446744073709551615) ∧ w.cell? ⟨b, 1, none⟩ = some (.int .u64 18446744073709551615) ∧ w.cell? ⟨b, 2, none⟩ = some (.int .u64 18446744073709551615) ∧ w.cell? ⟨b, 3, none⟩ = some (.int .u64 18446744073709551615)) ∧ w.cell? ⟨b, 4, none⟩ = some (.int .u64 1) ∧ w.cell? ⟨b, 5, none⟩ = some (.int .u64 0) ∧ w.cell? ⟨b, 6, none⟩ = some (.int .u64 0) ∧ w.cell? ⟨b, 7, none⟩ = some (.int .u64 0)) :
    Calls Tryd.prog 11 #[.slice (some ⟨b, 0, none⟩) 2 cap] w fun e w' => e = .returned (.agg #[.int .u64 0, .int .u64 0, .int .u64 0, .int .u64 0]) ∧ Below w.heap.size w w' := by
  have h := add_any b 0 2 cap (fun k => if k = 0 then sb 0 1 else 1) w (by omega) hb (fun k hk => by
    have m : ∀ i, i < 4 → lb (sb 0 1) i = 18446744073709551615 := fun i hi => by
      match i, hi with
      | 0, _ | 1, _ | 2, _ | 3, _ => decide +kernel
    have o0 : lb 1 0 = 1 := by decide +kernel
    have o1 : lb 1 1 = 0 := by decide +kernel
    have o2 : lb 1 2 = 0 := by decide +kernel
    have o3 : lb 1 3 = 0 := by decide +kernel
    match k, hk with
    | 0, _ => show w.cell? ⟨b, 0, none⟩ = some (.int .u64 (lb (sb 0 1) 0)) ∧ w.cell? ⟨b, 1, none⟩ = some (.int .u64 (lb (sb 0 1) 1)) ∧ w.cell? ⟨b, 2, none⟩ = some (.int .u64 (lb (sb 0 1) 2)) ∧ w.cell? ⟨b, 3, none⟩ = some (.int .u64 (lb (sb 0 1) 3)); rw [m 0 (by omega), m 1 (by omega), m 2 (by omega), m 3 (by omega)]; exact hc.1
    | 1, _ => show w.cell? ⟨b, 4, none⟩ = some (.int .u64 (lb 1 0)) ∧ w.cell? ⟨b, 5, none⟩ = some (.int .u64 (lb 1 1)) ∧ w.cell? ⟨b, 6, none⟩ = some (.int .u64 (lb 1 2)) ∧ w.cell? ⟨b, 7, none⟩ = some (.int .u64 (lb 1 3)); rw [o0, o1, o2, o3]; exact hc.2)
  rwa [W_wrap] at h
theorem add_works0 (X : World) :
    Calls Tryd.prog 11 #[.slice (some ⟨X.heap.size, 0, none⟩) 2 2] (X.alloc (.cells #[.int .u64 18446744073709551615, .int .u64 18446744073709551615, .int .u64 18446744073709551615, .int .u64 18446744073709551615, .int .u64 1, .int .u64 0, .int .u64 0, .int .u64 0] 24)).drew fun e w' => e = .returned (.agg #[.int .u64 0, .int .u64 0, .int .u64 0, .int .u64 0]) ∧ Below (X.alloc (.cells #[.int .u64 18446744073709551615, .int .u64 18446744073709551615, .int .u64 18446744073709551615, .int .u64 18446744073709551615, .int .u64 1, .int .u64 0, .int .u64 0, .int .u64 0] 24)).drew.heap.size (X.alloc (.cells #[.int .u64 18446744073709551615, .int .u64 18446744073709551615, .int .u64 18446744073709551615, .int .u64 18446744073709551615, .int .u64 1, .int .u64 0, .int .u64 0, .int .u64 0] 24)).drew w' := by
  have h : ∀ k, (X.alloc (.cells #[.int .u64 18446744073709551615, .int .u64 18446744073709551615, .int .u64 18446744073709551615, .int .u64 18446744073709551615, .int .u64 1, .int .u64 0, .int .u64 0, .int .u64 0] 24)).drew.cell? ⟨X.heap.size, k, none⟩ = (#[.int .u64 18446744073709551615, .int .u64 18446744073709551615, .int .u64 18446744073709551615, .int .u64 18446744073709551615, .int .u64 1, .int .u64 0, .int .u64 0, .int .u64 0] : Array Value)[k]? := fun k => cell_of_row _ _ k _ _ _ (Blk.new X 24 #[.int .u64 18446744073709551615, .int .u64 18446744073709551615, .int .u64 18446744073709551615, .int .u64 18446744073709551615, .int .u64 1, .int .u64 0, .int .u64 0, .int .u64 0])
  have hs : X.heap.size < (X.alloc (.cells #[.int .u64 18446744073709551615, .int .u64 18446744073709551615, .int .u64 18446744073709551615, .int .u64 18446744073709551615, .int .u64 1, .int .u64 0, .int .u64 0, .int .u64 0] 24)).drew.heap.size := by show X.heap.size < (X.alloc _).heap.size; simp
  exact add_works _ _ _ hs ⟨⟨h 0, h 1, h 2, h 3⟩, h 4, h 5, h 6, h 7⟩
theorem read_works (b cap : Nat) (w : World) (hb : b < w.heap.size) (h0 : w.cell? ⟨b, 0, none⟩ = some (.int .u8 1)) (h1 : w.cell? ⟨b, 1, none⟩ = some (.int .u8 0)) :
    Calls Tryd.prog 26 #[.slice (some ⟨b, 0, none⟩) 2 cap] w fun e w' => e = .returned (.tuple #[.agg #[.int .u64 256, .int .u64 0, .int .u64 0, .int .u64 0], .int .i64 0]) ∧ Below w.heap.size w w' := by
  have h := read_any b 0 2 cap (fun k => if k = 0 then 1 else 0) w (by omega) hb (fun k hk => by
    match k, hk with
    | 0, _ => exact ⟨by simp, by simpa using h0⟩
    | 1, _ => exact ⟨by simp, by simpa using h1⟩)
  rwa [show numB (fun k => if k = 0 then 1 else 0) 2 = 256 from rfl, W_256] at h
theorem parse_w1 (w : World) :
    Calls Tryd.prog 27 #[.string ⟨#[48, 120, 102, 102]⟩] w fun e w' => e = .returned (.tuple #[.agg #[.int .u64 255, .int .u64 0, .int .u64 0, .int .u64 0], .int .i64 0]) ∧ Below w.heap.size w w' := by
  have h := parse_ok ⟨#[48, 120, 102, 102]⟩ ⟨#[102, 102]⟩ (by decide) rfl rfl (by decide) (.inl (by decide)) (by decide) w
  rwa [show numD (⟨#[102, 102]⟩ : ByteArray).data.toList (⟨#[102, 102]⟩ : ByteArray).size = 255 from rfl, W_255] at h
theorem parse_w2 (w : World) :
    Calls Tryd.prog 27 #[.string ⟨#[48, 120, 48, 102]⟩] w fun e w' => e = .returned (.tuple #[.agg #[.int .u64 0, .int .u64 0, .int .u64 0, .int .u64 0], .int .i64 110]) ∧ Below w.heap.size w w' := by
  have h := parse_bad ⟨#[48, 120, 48, 102]⟩ ⟨#[48, 102]⟩ true (by decide) rfl rfl (.inr (.inr (.inl ⟨by decide, rfl, rfl, by decide +kernel⟩))) w
  rwa [W_zero] at h
theorem parse_w3 (w : World) :
    Calls Tryd.prog 27 #[.string ⟨#[102, 102]⟩] w fun e w' => e = .returned (.tuple #[.agg #[.int .u64 0, .int .u64 0, .int .u64 0, .int .u64 0], .int .i64 110]) ∧ Below w.heap.size w w' := by
  have h := parse_bad ⟨#[102, 102]⟩ ⟨#[102, 102]⟩ false (by decide) rfl rfl (.inl rfl) w
  rwa [W_zero] at h

theorem Blk.below {X Y : World} {g : Nat} {t : TypeId} {cs : Array Value} (h : Blk X g t cs) (k : Below X.heap.size X Y) : Blk Y g t cs := (k.block g h.lt).trans h
theorem eq_same (t : TypeId) (ht : Tryd.prog.underlying t = some (.array 4 22)) (a b c d : Int) (w : World) : (binOp .eql t (.agg #[.int .u64 a, .int .u64 b, .int .u64 c, .int .u64 d]) (.agg #[.int .u64 a, .int .u64 b, .int .u64 c, .int .u64 d])).run Tryd.prog w = .ok (.bool true) w := by
  obtain ⟨i, hi⟩ := Option.isSome_iff_exists.1 info_u64
  have f : ∀ j, j < 4 → (#[Value.int .u64 a, .int .u64 b, .int .u64 c, .int .u64 d] : Array Value)[j]? = some (.int .u64 (([a, b, c, d] : List Int).getD j 0)) := fun j hj => by
    match j, hj with
    | 0, _ | 1, _ | 2, _ | 3, _ => rfl
  rw [run_eql_ints ht (k := .u64) (by kernel_rfl) hi (by kernel_rfl) _ _ (fun j => ([a, b, c, d] : List Int).getD j 0) (fun j => ([a, b, c, d] : List Int).getD j 0) (fun j hj => ⟨f j hj, f j hj⟩) w]
  simp
theorem eq_sameW (a b c d : Int) (w : World) : (binOp .eql 24 (.agg #[.int .u64 a, .int .u64 b, .int .u64 c, .int .u64 d]) (.agg #[.int .u64 a, .int .u64 b, .int .u64 c, .int .u64 d])).run Tryd.prog w = .ok (.bool true) w := eq_same _ (by kernel_rfl) a b c d w
theorem bstep' {w W w1 : World} (k : Below W.heap.size W w1) (h : Below w.heap.size w W) : Below w.heap.size w w1 := bstep h k

set_option maxRecDepth 100000 in
set_option maxHeartbeats 4000000 in
theorem works_any (w : World) :
    Calls Tryd.prog 21 #[] w fun e w' => e = .returned (.bool true) ∧ Below w.heap.size w w' := by
  go_enter Tryd.func21, Tryd.ntmps21
  go_wp2_with fail
  refine (of_int 1 _).mono ?_
  rintro e w1 ⟨rfl, b1⟩
  go_wp2_with fail
  refine (parse_w1 _).mono ?_
  rintro e w2 ⟨rfl, b2⟩
  go_wp2_with fail
  refine (parse_w2 _).mono ?_
  rintro e w3 ⟨rfl, b3⟩
  go_wp2_with fail
  refine (parse_w3 _).mono ?_
  rintro e w4 ⟨rfl, b4⟩
  go_wp2_with fail
  refine (read_works _ _ _ (by simp) (by go_simp) (by go_simp)).mono ?_
  rintro e w5 ⟨rfl, b5⟩
  go_wp2_with fail
  have q1 : Blk (w.alloc (.cells #[.int .u64 18446744073709551615, .int .u64 18446744073709551615, .int .u64 18446744073709551615, .int .u64 18446744073709551615] 24)) w.heap.size 24 #[.int .u64 18446744073709551615, .int .u64 18446744073709551615, .int .u64 18446744073709551615, .int .u64 18446744073709551615] := Blk.new _ _ _
  have q2 : Blk (w1.alloc (.cells #[.int .u64 1, .int .u64 0, .int .u64 0, .int .u64 0] 24)) w1.heap.size 24 #[.int .u64 1, .int .u64 0, .int .u64 0, .int .u64 0] := Blk.new _ _ _
  have q3 : Blk ((w1.alloc (.cells #[.int .u64 1, .int .u64 0, .int .u64 0, .int .u64 0] 24)).alloc (.cells #[.int .u64 0, .int .u64 0, .int .u64 1, .int .u64 0] 24)) (w1.heap.size + 1) 24 #[.int .u64 0, .int .u64 0, .int .u64 1, .int .u64 0] := by
    have h := Blk.new (w1.alloc (.cells #[.int .u64 1, .int .u64 0, .int .u64 0, .int .u64 0] 24)) 24 #[.int .u64 0, .int .u64 0, .int .u64 1, .int .u64 0]
    rwa [World.size_alloc] at h
  have q4 : Blk (w2.alloc (.cells #[.int .u64 255, .int .u64 0, .int .u64 0, .int .u64 0] 24)) w2.heap.size 24 #[.int .u64 255, .int .u64 0, .int .u64 0, .int .u64 0] := Blk.new _ _ _
  have q5 : Blk (w5.alloc (.cells #[.int .u64 256, .int .u64 0, .int .u64 0, .int .u64 0] 24)) w5.heap.size 24 #[.int .u64 256, .int .u64 0, .int .u64 0, .int .u64 0] := Blk.new _ _ _
  have A := ((((((((((q1.below b1).alloc _).alloc _).below b2).alloc _).below b3).alloc _).below b4).alloc _).alloc _).below b5 |>.alloc (.cells #[.int .u64 256, .int .u64 0, .int .u64 0, .int .u64 0] 24)
  have B := ((((((((q2.alloc _).below b2).alloc _).below b3).alloc _).below b4).alloc _).alloc _).below b5 |>.alloc (.cells #[.int .u64 256, .int .u64 0, .int .u64 0, .int .u64 0] 24)
  have C := (((((((q3.below b2).alloc _).below b3).alloc _).below b4).alloc _).alloc _).below b5 |>.alloc (.cells #[.int .u64 256, .int .u64 0, .int .u64 0, .int .u64 0] 24)
  have D := (((((q4.below b3).alloc _).below b4).alloc _).alloc _).below b5 |>.alloc (.cells #[.int .u64 256, .int .u64 0, .int .u64 0, .int .u64 0] 24)
  have E := q5
  have hW : Below w.heap.size w (w5.alloc (.cells #[.int .u64 256, .int .u64 0, .int .u64 0, .int .u64 0] 24)) := balloc (bstep (balloc (balloc (bstep (balloc (bstep (balloc (bstep (balloc (balloc (bstep (balloc (Below.refl _ _) _) b1) _) _) b2) _) b3) _) b4) _) _) b5) _
  obtain ⟨W0, hW0⟩ : ∃ W0, w5.alloc (.cells #[.int .u64 256, .int .u64 0, .int .u64 0, .int .u64 0] 24) = W0 := ⟨_, rfl⟩
  rw [hW0] at A B C D E hW ⊢
  clear hW0 q1 q2 q3 q4 q5 b1 b2 b3 b4 b5
  have cA0 : ∀ w', Below W0.heap.size W0 w' → w'.cell? ⟨w.heap.size, 0, none⟩ = some (.int .u64 18446744073709551615) := fun w' h => (h.cell (p := ⟨w.heap.size, 0, none⟩) A.lt).trans (cell_of_row _ _ 0 _ _ _ A)
  have cA1 : ∀ w', Below W0.heap.size W0 w' → w'.cell? ⟨w.heap.size, 1, none⟩ = some (.int .u64 18446744073709551615) := fun w' h => (h.cell (p := ⟨w.heap.size, 1, none⟩) A.lt).trans (cell_of_row _ _ 1 _ _ _ A)
  have cA2 : ∀ w', Below W0.heap.size W0 w' → w'.cell? ⟨w.heap.size, 2, none⟩ = some (.int .u64 18446744073709551615) := fun w' h => (h.cell (p := ⟨w.heap.size, 2, none⟩) A.lt).trans (cell_of_row _ _ 2 _ _ _ A)
  have cA3 : ∀ w', Below W0.heap.size W0 w' → w'.cell? ⟨w.heap.size, 3, none⟩ = some (.int .u64 18446744073709551615) := fun w' h => (h.cell (p := ⟨w.heap.size, 3, none⟩) A.lt).trans (cell_of_row _ _ 3 _ _ _ A)
  have cB0 : ∀ w', Below W0.heap.size W0 w' → w'.cell? ⟨w1.heap.size, 0, none⟩ = some (.int .u64 1) := fun w' h => (h.cell (p := ⟨w1.heap.size, 0, none⟩) B.lt).trans (cell_of_row _ _ 0 _ _ _ B)
  have cB1 : ∀ w', Below W0.heap.size W0 w' → w'.cell? ⟨w1.heap.size, 1, none⟩ = some (.int .u64 0) := fun w' h => (h.cell (p := ⟨w1.heap.size, 1, none⟩) B.lt).trans (cell_of_row _ _ 1 _ _ _ B)
  have cB2 : ∀ w', Below W0.heap.size W0 w' → w'.cell? ⟨w1.heap.size, 2, none⟩ = some (.int .u64 0) := fun w' h => (h.cell (p := ⟨w1.heap.size, 2, none⟩) B.lt).trans (cell_of_row _ _ 2 _ _ _ B)
  have cB3 : ∀ w', Below W0.heap.size W0 w' → w'.cell? ⟨w1.heap.size, 3, none⟩ = some (.int .u64 0) := fun w' h => (h.cell (p := ⟨w1.heap.size, 3, none⟩) B.lt).trans (cell_of_row _ _ 3 _ _ _ B)
  have cC0 : ∀ w', Below W0.heap.size W0 w' → w'.cell? ⟨w1.heap.size + 1, 0, none⟩ = some (.int .u64 0) := fun w' h => (h.cell (p := ⟨w1.heap.size + 1, 0, none⟩) C.lt).trans (cell_of_row _ _ 0 _ _ _ C)
  have cC1 : ∀ w', Below W0.heap.size W0 w' → w'.cell? ⟨w1.heap.size + 1, 1, none⟩ = some (.int .u64 0) := fun w' h => (h.cell (p := ⟨w1.heap.size + 1, 1, none⟩) C.lt).trans (cell_of_row _ _ 1 _ _ _ C)
  have cC2 : ∀ w', Below W0.heap.size W0 w' → w'.cell? ⟨w1.heap.size + 1, 2, none⟩ = some (.int .u64 1) := fun w' h => (h.cell (p := ⟨w1.heap.size + 1, 2, none⟩) C.lt).trans (cell_of_row _ _ 2 _ _ _ C)
  have cC3 : ∀ w', Below W0.heap.size W0 w' → w'.cell? ⟨w1.heap.size + 1, 3, none⟩ = some (.int .u64 0) := fun w' h => (h.cell (p := ⟨w1.heap.size + 1, 3, none⟩) C.lt).trans (cell_of_row _ _ 3 _ _ _ C)
  have cD0 : ∀ w', Below W0.heap.size W0 w' → w'.cell? ⟨w2.heap.size, 0, none⟩ = some (.int .u64 255) := fun w' h => (h.cell (p := ⟨w2.heap.size, 0, none⟩) D.lt).trans (cell_of_row _ _ 0 _ _ _ D)
  have cD1 : ∀ w', Below W0.heap.size W0 w' → w'.cell? ⟨w2.heap.size, 1, none⟩ = some (.int .u64 0) := fun w' h => (h.cell (p := ⟨w2.heap.size, 1, none⟩) D.lt).trans (cell_of_row _ _ 1 _ _ _ D)
  have cD2 : ∀ w', Below W0.heap.size W0 w' → w'.cell? ⟨w2.heap.size, 2, none⟩ = some (.int .u64 0) := fun w' h => (h.cell (p := ⟨w2.heap.size, 2, none⟩) D.lt).trans (cell_of_row _ _ 2 _ _ _ D)
  have cD3 : ∀ w', Below W0.heap.size W0 w' → w'.cell? ⟨w2.heap.size, 3, none⟩ = some (.int .u64 0) := fun w' h => (h.cell (p := ⟨w2.heap.size, 3, none⟩) D.lt).trans (cell_of_row _ _ 3 _ _ _ D)
  have cE0 : ∀ w', Below W0.heap.size W0 w' → w'.cell? ⟨w5.heap.size, 0, none⟩ = some (.int .u64 256) := fun w' h => (h.cell (p := ⟨w5.heap.size, 0, none⟩) E.lt).trans (cell_of_row _ _ 0 _ _ _ E)
  have cE1 : ∀ w', Below W0.heap.size W0 w' → w'.cell? ⟨w5.heap.size, 1, none⟩ = some (.int .u64 0) := fun w' h => (h.cell (p := ⟨w5.heap.size, 1, none⟩) E.lt).trans (cell_of_row _ _ 1 _ _ _ E)
  have cE2 : ∀ w', Below W0.heap.size W0 w' → w'.cell? ⟨w5.heap.size, 2, none⟩ = some (.int .u64 0) := fun w' h => (h.cell (p := ⟨w5.heap.size, 2, none⟩) E.lt).trans (cell_of_row _ _ 2 _ _ _ E)
  have cE3 : ∀ w', Below W0.heap.size W0 w' → w'.cell? ⟨w5.heap.size, 3, none⟩ = some (.int .u64 0) := fun w' h => (h.cell (p := ⟨w5.heap.size, 3, none⟩) E.lt).trans (cell_of_row _ _ 3 _ _ _ E)
  clear A B C D E
  have HW := Lib.hid hW
  clear hW
  have heq := eq_sameW
  go_region_held3 (fun w' => Below W0.heap.size W0 w') (first | assumption | exact (Below.refl _ _).drew | exact (balloc (Below.refl _ _) _).drew | exact bstep' (by assumption) (by assumption))
    (first
      | (go_at_call 11; refine (add_works0 W0).mono ?_; rintro e wk ⟨rfl, hk⟩)
      | (go_at_call 13; refine (sub_works _).mono ?_; rintro e wk ⟨rfl, hk⟩)
      | (go_at_call 15; refine (mul_works _).mono ?_; rintro e wk ⟨rfl, hk⟩)
      | (go_at_call 19; refine (of_int _ _).mono ?_; rintro e wk ⟨rfl, hk⟩)
      | (go_at_call 17; refine (order_works _).mono ?_; rintro e wk ⟨rfl, hk⟩)
      | (go_at_call 24; refine (text_works _).mono ?_; rintro e wk ⟨rfl, hk⟩)
      | (go_at_call 29; refine (num_any _ _).mono ?_; rintro e wk ⟨rfl, rfl⟩))
  all_goals (go_wp2; go_ret; exact ⟨rfl, bstep HW.out (by assumption)⟩)

end Go.Proofs.YtimmcljpfpimbaaDoor
