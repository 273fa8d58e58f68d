/- Facts for WordHolds and WordSums: texts tell words apart; the sum of two. -/
import Derived.Test.YtimmcljpfpimbaaDoorWj
namespace Go.Proofs.YtimmcljpfpimbaaDoor
open Go.RowKit

/-! Unlike words have unlike texts. -/
def valL (l : List UInt8) : Nat := l.foldl (fun n b => n * 16 + dv b) 0
theorem valL_zero (l : List UInt8) : valL (48 :: l) = valL l := rfl
theorem valL_trim (l : List UInt8) : valL (Lib.trimLeftB l 48) = valL l := by
  unfold Lib.trimLeftB
  induction l with
  | nil => rfl
  | cons b l ih =>
    rw [List.dropWhile_cons]
    by_cases h : (b == 48) = true
    · rw [if_pos h, ih]
      have : b = 48 := by simpa using h
      subst this; rfl
    · rw [if_neg h]
theorem valL_snoc (l : List UInt8) (b : UInt8) : valL (l ++ [b]) = valL l * 16 + dv b := by unfold valL; rw [List.foldl_append]; rfl
theorem dv_dg : ∀ n : Fin 16, dv (UInt8.ofNat (dgN n.val)) = n.val := by decide +kernel
theorem hex_val (a : Nat) : ∀ k, k ≤ 64 → valL ((List.range k).map fun p => UInt8.ofNat (dgN (nib a (63 - p)))) = a / 16 ^ (64 - k) % 16 ^ k
  | 0, _ => by simp [valL, Nat.mod_one]
  | k + 1, h => by
    rw [List.range_succ, List.map_append, List.map_cons, List.map_nil, valL_snoc, hex_val a k (by omega), dv_dg ⟨nib a (63 - k), nib_lt a _⟩]
    show a / 16 ^ (64 - k) % 16 ^ k * 16 + nib a (63 - k) = _
    unfold nib
    have e : 64 - k = (63 - k) + 1 := by omega
    rw [show 64 - (k + 1) = 63 - k from by omega, e, Nat.pow_succ, ← Nat.div_div_eq_div_mul]
    generalize a / 16 ^ (63 - k) = m
    rw [Nat.pow_succ', Nat.mod_mul]
    omega
theorem MM_16 : MM = 16 ^ 64 := by rw [MM_eq]
theorem hexL_val (a : Nat) (h : a < MM) : valL (hexL a) = a := by
  unfold hexL
  rw [hex_val a 64 (by omega)]
  simp only [Nat.sub_self, Nat.pow_zero, Nat.div_one]
  exact Nat.mod_eq_of_lt (by rw [← MM_16]; exact h)
theorem txtL_val (a : Nat) (h : a < MM) : valL ((txtL a).drop 2) = a := by
  have e := valL_trim (hexL a)
  rw [hexL_val a h] at e
  unfold txtL
  show valL (if (Lib.trimLeftB (hexL a) 48).isEmpty then [48] else Lib.trimLeftB (hexL a) 48) = a
  by_cases g : (Lib.trimLeftB (hexL a) 48).isEmpty = true
  · rw [if_pos g]
    have : Lib.trimLeftB (hexL a) 48 = [] := by simpa using g
    rw [this] at e; rw [← e]; rfl
  · rw [if_neg g]; exact e
theorem txt_eq (a b : Nat) (ha : a < MM) (hb : b < MM) : (txtL a == txtL b) = (a % MM == b % MM) := by
  rw [Nat.mod_eq_of_lt ha, Nat.mod_eq_of_lt hb, Bool.eq_iff_iff]
  simp only [beq_iff_eq]
  exact ⟨fun h => by rw [← txtL_val a ha, ← txtL_val b hb, h], fun h => by rw [h]⟩

theorem eqW_true (x y : Nat) (h : x % MM = y % MM) (w : World) : (binOp .eql 24 (W x) (W y)).run Tryd.prog w = .ok (.bool true) w := by
  rw [eqW, h]; simp
theorem Blk.drewn {X : World} {g : Nat} {t : TypeId} {cs : Array Value} (h : Blk X g t cs) : Blk X.drew g t cs := h
theorem Blk.new1 (X : World) (o : Obj) (t : TypeId) (cs : Array Value) : Blk ((X.alloc o).alloc (.cells cs t)) (X.heap.size + 1) t cs := by
  have h := Blk.new (X.alloc o) t cs
  rwa [World.size_alloc] at h
/-- The sum of two, laid side by side. -/
theorem add2_any (x y b cap : Nat) (w : World) (hB : Blk w b 24 #[.int .u64 (lb x 0), .int .u64 (lb x 1), .int .u64 (lb x 2), .int .u64 (lb x 3), .int .u64 (lb y 0), .int .u64 (lb y 1), .int .u64 (lb y 2), .int .u64 (lb y 3)]) :
    Calls Tryd.prog 11 #[.slice (some ⟨b, 0, none⟩) 2 cap] w fun e w' => e = .returned (W (x + y)) ∧ Below w.heap.size w w' := by
  have hc := fun k => cell_of_row w b k _ _ _ hB
  have h := add_any b 0 2 cap (fun k => if k = 0 then x else y) w (by omega) hB.lt (fun k hk => by
    match k, hk with
    | 0, _ => exact ⟨hc 0, hc 1, hc 2, hc 3⟩
    | 1, _ => exact ⟨hc 4, hc 5, hc 6, hc 7⟩)
  rwa [show sumN (fun k => if k = 0 then x else y) 2 = x + y from by simp [sumN]] at h

theorem sb_add (a b : Nat) : sb (a + b) b % MM = a % MM := by
  unfold sb
  have h := Nat.mod_lt b MM_pos
  have e : a + b + (MM - b % MM) = a + MM * (b / MM + 1) := by
    have := Nat.div_add_mod b MM
    rw [Nat.mul_add]; omega
  rw [e, Nat.add_mul_mod_self_left]
theorem cmpN_bd (a b : Nat) : -1 ≤ cmpN a b ∧ cmpN a b ≤ 1 := by
  unfold cmpN; split
  · omega
  · split <;> omega

end Go.Proofs.YtimmcljpfpimbaaDoor
