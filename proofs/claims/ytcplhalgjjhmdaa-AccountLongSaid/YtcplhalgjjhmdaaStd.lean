/- slot: a look into maps, one behind the other. -/
import Derived.Test.YtcplhalgjjhmdaaStc
namespace Go.Proofs.Ytcplhalgjjhmdaa
open Go.RowKit Go.Shelf Go.ChangeMaps Go.MapKept

theorem ret_zero {fn : Func} {p : Tmp} {tmps : Array Value} {X : World} {g : Nat} (h : fn.results = #[.cell p 36]) (hp : tmps.getD p undef = .pointer (some ⟨g, 0, none⟩)) (hb : Blk X g 36 #[.int .u64 0, .int .u64 0, .int .u64 0, .int .u64 0, .int .u64 0]) : (results fn tmps).run Try.prog X = .ok (vP (0, 0)) X := by
  refine ret_val h hp ?_
  show Blk X g _ #[.int .u64 (lb 0 0), .int .u64 (lb 0 1), .int .u64 (lb 0 2), .int .u64 (lb 0 3), .int .u64 ((0 : Nat) : Int)]
  simp only [lb0]
  exact hb
theorem lk_some {m : Nat → Option (Nat × Nat)} {n : Nat} {v : Nat × Nat} (h : m n = some v) : lk m n = v := by unfold lk; rw [h]; rfl
theorem lk_none {m : Nat → Option (Nat × Nat)} {n : Nat} (h : m n = none) : lk m n = (0, 0) := by unfold lk; rw [h]; rfl
/-- What two maps, the first one ahead, have of a key. -/
def lk2 (f m : Nat → Option (Nat × Nat)) (n : Nat) : Nat × Nat := (f n).getD (lk m n)
theorem lk2_some {f m : Nat → Option (Nat × Nat)} {n : Nat} {v : Nat × Nat} (h : f n = some v) : lk2 f m n = v := by unfold lk2; rw [h]; rfl
theorem lk2_none {f m : Nat → Option (Nat × Nat)} {n : Nat} (h : f n = none) : lk2 f m n = lk m n := by unfold lk2; rw [h]; rfl
set_option maxRecDepth 100000 in
set_option maxHeartbeats 2000000 in
theorem look1_one (g s c b : Nat) (m : Nat → Option (Nat × Nat)) (n : Nat) (hn : n < MM) (w : World) (hg : Blk w g 106 #[.slice (some ⟨s, 0, none⟩) 1 c]) (hs : w.cell? ⟨s, 0, none⟩ = some (.map (some b))) (hm : Mp w b m) :
    Calls Try.prog 52 #[W n, .pointer (some ⟨g, 0, none⟩)] w fun e w' => e = .returned (vP (lk m n)) ∧ Below w.heap.size w w' := by
  obtain ⟨W2, hW2⟩ : ∃ W2, (w.alloc (.cells (Wc n) 33)).alloc (.cells #[.int .u64 0, .int .u64 0, .int .u64 0, .int .u64 0, .int .u64 0] 36) = W2 := ⟨_, rfl⟩
  have hal : Below w.heap.size w W2 := by rw [← hW2]; exact balloc (balloc (Below.refl _ _) _) _
  have cg := cell_of_row _ _ 0 _ _ _ (hg.keep hal)
  have cs := (hal.cell (p := ⟨s, 0, none⟩) (World.block_lt_of_cell? w _ hs)).trans hs
  have hl := (hm.keep hal).look und_mp n hn true
  rw [← hW2] at cg cs hl
  cases hv : m n with
  | none =>
    have hv2 : lk m n = (0, 0) := lk_none hv
    rw [hv2, hv, vP0] at hl
    simp only [if_true, Option.isSome] at hl
    clear hg hs hm hal hW2 hv
    go_enter Try.func52, Try.ntmps52
    go_wp2_with fail
    refine wp_loop_rounds 2 ?_
    rw [rounds_succ]
    go_wp2_with fail
    rw [rounds_succ]
    go_wp2_with fail
    exact bodyPost_ret (ret_zero rfl rfl ((Blk.newS w _ _ _).alloc _)) rfl ⟨by rw [hv2], balloc (balloc (balloc (Below.refl _ _) _) _) _⟩
  | some v =>
    have hv2 : lk m n = v := lk_some hv
    rw [hv2, hv] at hl
    simp only [if_true, Option.isSome] at hl
    clear hg hs hm hal hW2 hv
    go_enter Try.func52, Try.ntmps52
    go_wp2_with fail
    refine wp_loop_rounds 2 ?_
    rw [rounds_succ]
    go_wp2_with fail
    exact bodyPost_ret (ret_val (n := v.1) (a := v.2) rfl rfl ((Blk.newS w _ _ _).alloc _)) rfl ⟨by rw [hv2], balloc (balloc (balloc (Below.refl _ _) _) _) _⟩
set_option maxRecDepth 100000 in
set_option maxHeartbeats 2000000 in
theorem look1_two (g s c b d : Nat) (f m : Nat → Option (Nat × Nat)) (n : Nat) (hn : n < MM) (w : World) (hg : Blk w g 106 #[.slice (some ⟨s, 0, none⟩) 2 c]) (hs : w.cell? ⟨s, 0, none⟩ = some (.map (some b))) (hs2 : w.cell? ⟨s, 1, none⟩ = some (.map (some d))) (hf : Mp w b f) (hm : Mp w d m) :
    Calls Try.prog 52 #[W n, .pointer (some ⟨g, 0, none⟩)] w fun e w' => e = .returned (vP (lk2 f m n)) ∧ Below w.heap.size w w' := by
  obtain ⟨W2, hW2⟩ : ∃ W2, (w.alloc (.cells (Wc n) 33)).alloc (.cells #[.int .u64 0, .int .u64 0, .int .u64 0, .int .u64 0, .int .u64 0] 36) = W2 := ⟨_, rfl⟩
  have hal : Below w.heap.size w W2 := by rw [← hW2]; exact balloc (balloc (Below.refl _ _) _) _
  have cg := cell_of_row _ _ 0 _ _ _ (hg.keep hal)
  have cs := (hal.cell (p := ⟨s, 0, none⟩) (World.block_lt_of_cell? w _ hs)).trans hs
  obtain ⟨W3, hW3⟩ : ∃ W3, W2.alloc (.cells #[.int .u64 0, .int .u64 0, .int .u64 0, .int .u64 0, .int .u64 0] 36) = W3 := ⟨_, rfl⟩
  have hal3 : Below w.heap.size w W3 := by rw [← hW3]; exact balloc hal _
  have cs2 := (hal3.cell (p := ⟨s, 1, none⟩) (World.block_lt_of_cell? w _ hs2)).trans hs2
  have hl := (hf.keep hal).look und_mp n hn true
  have hl2 := (hm.keep hal3).look und_mp n hn true
  rw [← hW3, ← hW2] at cs2 hl2
  rw [← hW2] at cg cs hl
  cases hv : f n with
  | some v =>
    have hv2 : lk2 f m n = v := lk2_some hv
    rw [lk_some hv, hv] at hl
    simp only [if_true, Option.isSome] at hl
    clear hg hs hs2 hm hf hal hal3 hW2 hW3 cs2 hl2 hv
    go_enter Try.func52, Try.ntmps52
    go_wp2_with fail
    refine wp_loop_rounds 3 ?_
    rw [rounds_succ]
    go_wp2_with fail
    exact bodyPost_ret (ret_val (n := v.1) (a := v.2) rfl rfl ((Blk.newS w _ _ _).alloc _)) rfl ⟨by rw [hv2], balloc (balloc (balloc (Below.refl _ _) _) _) _⟩
  | none =>
    rw [lk_none hv, hv, vP0] at hl
    simp only [if_true, Option.isSome] at hl
    have hv0 := lk2_none (m := m) hv
    cases hu : m n with
    | some v =>
      have hv2 : lk2 f m n = v := hv0.trans (lk_some hu)
      rw [lk_some hu, hu] at hl2
      simp only [if_true, Option.isSome] at hl2
      clear hg hs hs2 hm hf hal hal3 hW2 hW3 hv hu hv0
      go_enter Try.func52, Try.ntmps52
      go_wp2_with fail
      refine wp_loop_rounds 3 ?_
      rw [rounds_succ]
      go_wp2_with fail
      rw [rounds_succ]
      go_wp2_with fail
      exact bodyPost_ret (ret_val (n := v.1) (a := v.2) rfl rfl (((Blk.newS w _ _ _).alloc _).alloc _)) rfl ⟨by rw [hv2], balloc (balloc (balloc (balloc (Below.refl _ _) _) _) _) _⟩
    | none =>
      have hv2 : lk2 f m n = (0, 0) := hv0.trans (lk_none hu)
      rw [lk_none hu, hu, vP0] at hl2
      simp only [if_true, Option.isSome] at hl2
      clear hg hs hs2 hm hf hal hal3 hW2 hW3 hv hu hv0
      go_enter Try.func52, Try.ntmps52
      go_wp2_with fail
      refine wp_loop_rounds 3 ?_
      rw [rounds_succ]
      go_wp2_with fail
      rw [rounds_succ]
      go_wp2_with fail
      rw [rounds_succ]
      go_wp2_with fail
      exact bodyPost_ret (ret_zero rfl rfl (((Blk.newS w _ _ _).alloc _).alloc _)) rfl ⟨by rw [hv2], balloc (balloc (balloc (balloc (Below.refl _ _) _) _) _) _⟩

end Go.Proofs.Ytcplhalgjjhmdaa
