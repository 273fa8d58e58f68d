/- slot: storage in memory; what it tells of a key. -/
import Derived.Test.YtcplhalgjjhmdaaStd
namespace Go.Proofs.Ytcplhalgjjhmdaa
open Go.RowKit Go.Shelf Go.ChangeMaps Go.MapKept

/-- Storage in block g: what changed since it was settled (block bv), what was (block bw), how many keys have a value. -/
def SlB (X : World) (g bv bw : Nat) (fv fw : Nat → Option (Nat × Nat)) (many : Nat) : Prop := Blk X g 87 #[.map (some bv), .map (some bw), .int .i64 many] ∧ Mp X bv fv ∧ Mp X bw fw ∧ bv ≠ bw
theorem SlB.chg {M : Nat → Prop} {X Y : World} {g bv bw many : Nat} {fv fw : Nat → Option (Nat × Nat)} (h : SlB X g bv bw fv fw many) (k : Chg M X Y) (h1 : ¬ M g) (h2 : ¬ M bv) (h3 : ¬ M bw) : SlB Y g bv bw fv fw many := ⟨h.1.chg k h1, h.2.1.chg k h2, h.2.2.1.chg k h3, h.2.2.2⟩
theorem SlB.keep {X Y : World} {g bv bw many : Nat} {fv fw : Nat → Option (Nat × Nat)} (h : SlB X g bv bw fv fw many) (k : Below X.heap.size X Y) : SlB Y g bv bw fv fw many := ⟨h.1.keep k, h.2.1.keep k, h.2.2.1.keep k, h.2.2.2⟩
theorem blk_ne_map {X : World} {g b : Nat} {t : TypeId} {cs : Array Value} {m : Nat → Option (Nat × Nat)} (h : Blk X g t cs) (hm : Mp X b m) : g ≠ b := by
  rintro rfl
  obtain ⟨es, clock, hb, _⟩ := hm
  unfold Blk at h
  rw [h] at hb; cases hb
theorem HelN.map {n : Nat} {t : TypeId} {W1 w' : World} {R b : Nat} {m : Nat → Option (Nat × Nat)} (h : HelN n t W1 R w') (hm : Mp W1 b m) (hne : b ≠ R) : Mp w' b m := hm.of_block (h.1.block b hm.lt (fun e => hne (Option.some.inj e)))
theorem HelN.blk {n k : Nat} {t u : TypeId} {W1 w' : World} {R : Nat} {cs : Array Value} (h : HelN n t W1 R w') (hm : Blk W1 k u cs) (hne : k ≠ R) : Blk w' k u cs := (h.1.block k hm.lt (fun e => hne (Option.some.inj e))).trans hm
theorem eqMapNil (x : Option Nat) (w : World) : (binOp .eql 85 (.map x) (.map none)).run Try.prog w = .ok (.bool x.isNone) w := run_eql_map_nil_sl w _ _ _ x und_mp
set_option maxRecDepth 100000 in
theorem none_not (g b : Nat) (x y : Value) (w : World) (h : Blk w g 87 #[.map (some b), x, y]) : Calls Try.prog 36 #[.pointer (some ⟨g, 0, none⟩)] w fun e w' => e = .returned (.bool false) ∧ w = w' := by
  have c0 := cell_of_row _ _ 0 _ _ _ h
  have hq := eqMapNil (some b)
  clear h
  go_enter Try.func36, Try.ntmps36
  go_wp2_with fail
  go_ret
  exact ⟨rfl, rfl⟩
set_option maxRecDepth 100000 in
theorem none_zero (g : Nat) (x y : Value) (w : World) (h : Blk w g 87 #[.map none, x, y]) : Calls Try.prog 36 #[.pointer (some ⟨g, 0, none⟩)] w fun e w' => e = .returned (.bool true) ∧ w = w' := by
  have c0 := cell_of_row _ _ 0 _ _ _ h
  have hq := eqMapNil none
  clear h
  go_enter Try.func36, Try.ntmps36
  go_wp2_with fail
  go_ret
  exact ⟨rfl, rfl⟩
set_option maxRecDepth 100000 in
theorem none_nil (w : World) : Calls Try.prog 36 #[.pointer none] w fun e w' => e = .returned (.bool true) ∧ w = w' := by
  go_enter Try.func36, Try.ntmps36
  go_wp2_with (first | with_reducible refine And.intro (fun f h => (by cases h)) ?_ | fail)
  go_ret
  exact ⟨rfl, rfl⟩

end Go.Proofs.Ytcplhalgjjhmdaa
