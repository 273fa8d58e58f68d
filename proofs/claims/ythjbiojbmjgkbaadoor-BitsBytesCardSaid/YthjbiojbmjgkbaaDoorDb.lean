/- bits' law: BitsBytes: the walk. -/
import Derived.Test.YthjbiojbmjgkbaaDoorDa
import Derived.Test.YthjbiojbmjgkbaaDoorBt
namespace Go.Proofs.YthjbiojbmjgkbaaDoor
open Go.RowKit
attribute [local go_sem] ix0 ix1 ix2 ix3
attribute [local irreducible] lb byteN extN
set_option maxRecDepth 100000 in
set_option maxHeartbeats 4000000 in
theorem bytes_walk (n a : Nat) (hn : n < MM) (ha : a < MM) (w : World) (hT : TZ w) :
    Calls Tryd.prog 5 #[W n, W a] w fun e w' => e = .returned (.bool true) ∧ Below w.heap.size w w' := by
  have HT := Lib.hid hT
  have H1 := Lib.hid (fun w => byte_any n a hn w)
  have H2 := Lib.hid (fun w => rbyte_any n a hn w)
  have H3 := Lib.hid (fun w => ext_any n a hn ha w)
  have H4 := Lib.hid (fun w => rext_any n a hn w)
  have A := Lib.hid ((Blk.new w 25 (Wc n)).alloc (.cells (Wc a) 25))
  have B := Lib.hid (Blk.newS w (.cells (Wc n) 25) 25 (Wc a))
  have hW := Lib.hid (balloc (balloc (Below.refl w.heap.size w) (.cells (Wc n) 25)) (.cells (Wc a) 25))
  clear hT hn ha
  go_enter Tryd.func5, Tryd.ntmps5
  go_wp2_with fail
  have A' := A.out
  have B' := B.out
  have hW' := hW.out
  obtain ⟨W0, hW0⟩ : ∃ W0, (w.alloc (.cells (Wc n) 25)).alloc (.cells (Wc a) 25) = W0 := ⟨_, rfl⟩
  rw [hW0] at A' B' hW' ⊢
  clear hW0 A B hW
  have cn0 : ∀ w', Below W0.heap.size W0 w' → w'.cell? ⟨w.heap.size, 0, none⟩ = some (.int .u64 (lb n 0)) := fun w' h => (A'.keep h).get4.1
  have cn1 : ∀ w', Below W0.heap.size W0 w' → w'.cell? ⟨w.heap.size, 1, none⟩ = some (.int .u64 (lb n 1)) := fun w' h => (A'.keep h).get4.2.1
  have cn2 : ∀ w', Below W0.heap.size W0 w' → w'.cell? ⟨w.heap.size, 2, none⟩ = some (.int .u64 (lb n 2)) := fun w' h => (A'.keep h).get4.2.2.1
  have cn3 : ∀ w', Below W0.heap.size W0 w' → w'.cell? ⟨w.heap.size, 3, none⟩ = some (.int .u64 (lb n 3)) := fun w' h => (A'.keep h).get4.2.2.2.1
  have ca0 : ∀ w', Below W0.heap.size W0 w' → w'.cell? ⟨w.heap.size + 1, 0, none⟩ = some (.int .u64 (lb a 0)) := fun w' h => (B'.keep h).get4.1
  have ca1 : ∀ w', Below W0.heap.size W0 w' → w'.cell? ⟨w.heap.size + 1, 1, none⟩ = some (.int .u64 (lb a 1)) := fun w' h => (B'.keep h).get4.2.1
  have ca2 : ∀ w', Below W0.heap.size W0 w' → w'.cell? ⟨w.heap.size + 1, 2, none⟩ = some (.int .u64 (lb a 2)) := fun w' h => (B'.keep h).get4.2.2.1
  have ca3 : ∀ w', Below W0.heap.size W0 w' → w'.cell? ⟨w.heap.size + 1, 3, none⟩ = some (.int .u64 (lb a 3)) := fun w' h => (B'.keep h).get4.2.2.2.1
  have HWK := Lib.hid (fun X (h : Below W0.heap.size W0 X) => works_any X (HT.out.below HT.out.lt (bstep hW' h)))
  have heq := eq_sameW
  have hs0 : Below W0.heap.size W0 W0.drew := (Below.refl _ _).drew
  have HW := Lib.hid hW'
  clear A' B' hW' HT
  go_region_held3 (fun w' => Below W0.heap.size W0 w') (first | assumption | exact rstep (by assumption) (by assumption))
    (first
      | (go_at_call 24; refine (H1.out _).mono ?_; rintro e wk ⟨rfl, hk⟩)
      | (go_at_call 25; refine (H2.out _).mono ?_; rintro e wk ⟨rfl, hk⟩)
      | (go_at_call 26; refine (H3.out _).mono ?_; rintro e wk ⟨rfl, hk⟩)
      | (go_at_call 27; refine (H4.out _).mono ?_; rintro e wk ⟨rfl, hk⟩)
      | (go_at_call 11; refine (HWK.out _ (by assumption)).mono ?_; rintro e wk ⟨rfl, hk⟩))
  all_goals
    have hX : Below W0.heap.size W0 wk := by assumption
    have HE := Lib.hid (bstep HW.out hX)
    go_wp2
    go_ret
    exact ⟨rfl, HE.out⟩
end Go.Proofs.YthjbiojbmjgkbaaDoor
