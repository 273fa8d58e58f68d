/- bits' law: BitsFolds, of a list that is empty and of one that is not. -/
import Derived.Test.YthjbiojbmjgkbaaDoorBu
namespace Go.Proofs.YthjbiojbmjgkbaaDoor
open Go.RowKit
attribute [local go_sem] ix0 ix1 ix2 ix3
set_option maxHeartbeats 2000000 in
theorem bfold_empty (F : FuncId) (a : Nat) (x : Option Addr) (cap : Nat) (w : World) :
    Calls Tryd.prog 45 #[W a, .func (.func F) #[] #[], .slice x 0 cap] w fun e w' => e = .returned (W a) ∧ Below w.heap.size w w' := by
  go_enter Tryd.func45, Tryd.ntmps45
  go_wp2
  refine wp_loop_rounds 1 ?_
  rw [rounds_succ]; go_wp2
  exact bodyPost_ret (v := W a) (by simp [results, Tryd.results45, go_sem]) rfl ⟨rfl, balloc (balloc (Below.refl _ _) _) _⟩
theorem count_empty (x : Option Addr) (cap : Nat) (f : Nat → Nat) (j : Nat) (w : World) :
    Calls Tryd.prog 48 #[.slice x 0 cap, .int .i64 j] w fun e w' => e = .returned (.int .i64 (cntN f j 0 : Nat)) ∧ Below w.heap.size w w' := by
  go_enter Tryd.func48, Tryd.ntmps48
  go_wp2
  refine wp_loop_rounds 1 ?_
  rw [rounds_succ]; go_wp2
  go_ret
  exact ⟨rfl, Below.refl _ _⟩
theorem folds_some (b o n cap : Nat) (f : Nat → Nat) (a : Nat) (ha : a < MM) (w : World) (hT : TZ w) (hn : n ≤ 9223372036854775807) (hb : b < w.heap.size) (hf : WordsAt w b o n f) (hlt : ∀ i, i < n → f i < MM) :
    Calls Tryd.prog 3 #[.slice (some ⟨b, o, none⟩) n cap, W a] w fun e w' => e = .returned (.bool true) ∧ Below w.heap.size w w' := by
  have hc : ∀ X, Below w.heap.size w X → ∀ Y, Below X.heap.size X Y → ∀ j : Nat, j < 256 → Calls Tryd.prog 48 #[.slice (some ⟨b, o, none⟩) n cap, .int .i64 j] Y fun e w' => e = .returned (.int .i64 (cntN f j n : Nat)) ∧ Below Y.heap.size Y w' := fun X hX Y hY j hj =>
    count_any b o n cap f j hj Y hn (Nat.lt_of_lt_of_le (Nat.lt_of_lt_of_le hb hX.size) hY.size) ((hf.below hb hX).below (Nat.lt_of_lt_of_le hb hX.size) hY)
  refine folds_walk (some ⟨b, o, none⟩) n cap f a ha w hT hn ?_ ?_ ?_ ?_ ?_ ?_
  · exact fun X hX => and_any b o n cap f X hn (Nat.lt_of_lt_of_le hb hX.size) (hf.below hb hX)
  · exact fun X hX => or_any b o n cap f X hn (Nat.lt_of_lt_of_le hb hX.size) (hf.below hb hX)
  · exact fun X hX => xor_any b o n cap f X hn (Nat.lt_of_lt_of_le hb hX.size) (hf.below hb hX)
  · intro X hX; have h := rfold0_any (some ⟨b, o, none⟩) n cap f X (hc X hX); rwa [and_fold f n hlt] at h
  · intro X hX; have h := rfold1_any (some ⟨b, o, none⟩) n cap f X (hc X hX); rwa [or_fold f n hlt] at h
  · intro X hX; have h := rfold2_any (some ⟨b, o, none⟩) n cap f X (hc X hX); rwa [xor_fold f n hlt] at h
theorem folds_empty (x : Option Addr) (cap : Nat) (a : Nat) (ha : a < MM) (w : World) (hT : TZ w) :
    Calls Tryd.prog 3 #[.slice x 0 cap, W a] w fun e w' => e = .returned (.bool true) ∧ Below w.heap.size w w' := by
  have hlt : ∀ i, i < 0 → (fun _ : Nat => 0) i < MM := fun i h => by omega
  refine folds_walk x 0 cap (fun _ => 0) a ha w hT (by omega) ?_ ?_ ?_ ?_ ?_ ?_
  · intro X _; exact and_of _ _ X fun Y _ => bfold_empty _ _ _ _ Y
  · intro X _; exact or_of _ _ X fun Y _ => bfold_empty _ _ _ _ Y
  · intro X _; exact xor_of _ _ X fun Y _ => bfold_empty _ _ _ _ Y
  · intro X _; have h := rfold0_any x 0 cap (fun _ => 0) X (fun Y _ j _ => count_empty x cap _ j Y); rwa [and_fold _ 0 hlt] at h
  · intro X _; have h := rfold1_any x 0 cap (fun _ => 0) X (fun Y _ j _ => count_empty x cap _ j Y); rwa [or_fold _ 0 hlt] at h
  · intro X _; have h := rfold2_any x 0 cap (fun _ => 0) X (fun Y _ j _ => count_empty x cap _ j Y); rwa [xor_fold _ 0 hlt] at h
end Go.Proofs.YthjbiojbmjgkbaaDoor
