/- big: multiply. -/
import Derived.Test.YtjkniebedgiclaaDoorFi
import Derived.Laws.IdiomCopy
import Derived.Lib.SliceRun
namespace Go.Proofs.YtjkniebedgiclaaDoor
open Go.RowKit Go.Shelf

theorem Dk.sets {b N : Nat} : ∀ (vs : List Nat) (o : Nat) (X : World) (f : Nat → Nat), Dk X b N f → (∀ v ∈ vs, v < B64) →
    Dk (X.setCells b o (vs.map fun v => Value.int .u64 (v : Nat))) b N (fun i => if o ≤ i ∧ i < o + vs.length then vs.getD (i - o) 0 else f i)
  | [], o, X, f, h, _ => h.congr fun i _ => by rw [if_neg (by simp)]
  | v :: vs, o, X, f, h, hv => by
    have ih := Dk.sets vs (o + 1) _ _ (h.set o v (hv v (by simp))) (fun u hu => hv u (by simp [hu]))
    refine Dk.congr ih fun i _ => ?_
    simp only [List.length_cons]
    by_cases e : o + 1 ≤ i ∧ i < o + 1 + vs.length
    · rw [if_pos e, if_pos (by omega), show i - o = (i - (o + 1)) + 1 by omega]; rfl
    · rw [if_neg e, upf]
      by_cases e2 : i = o
      · subst e2; rw [if_pos rfl, if_pos (by omega), Nat.sub_self]; rfl
      · rw [if_neg e2, if_neg (by omega)]
theorem Chg.sets {M : Nat → Prop} {w : World} {b : Nat} (hb : b < w.heap.size → M b) : ∀ (vs : List Value) (o : Nat) (X : World), Chg M w X → Chg M w (X.setCells b o vs)
  | [], _, _, h => h
  | v :: vs, o, _, h => Chg.sets hb vs (o + 1) _ (h.set b o v hb)
theorem zero_u64 (w : World) : (zeroValue 72).run Tryd.prog w = .ok (.int .u64 0) w := by kernel_rfl
theorem und_u64s : Tryd.prog.underlying 54 = some (.slice 72) := by kernel_rfl
theorem size_u64 : (Tryd.prog.info? 72).map (·.size) = some 1 := by kernel_rfl
/-- clear of a row of digits. -/
theorem clear_run (b n c : Nat) (f : Nat → Nat) (hn : 0 < n) (w : World) (h : Dk w b n f) (ty : TypeId) :
    (Builtin.clear_ #[54] ty #[.slice (some ⟨b, 0, none⟩) n c]).run Tryd.prog w = .ok (.tuple #[]) (w.setCells b 0 (List.replicate n (.int .u64 0))) :=
  Lib.run_clear_slice w 54 72 ty (.int .u64 0) und_u64s zero_u64 rfl rfl b 0 n c hn (fun j hj => by rw [Nat.zero_add, h.cell j hj]; rfl) (fun j _ => h.free _)
theorem clear_dk (b n : Nat) (f : Nat → Nat) (w : World) (h : Dk w b n f) : Dk (w.setCells b 0 (List.replicate n (.int .u64 0))) b n (fun _ => 0) := by
  have h1 := Dk.sets (List.replicate n 0) 0 w f h (fun v hv => by rw [(List.mem_replicate.1 hv).2]; exact B64_pos)
  rw [List.map_replicate] at h1
  refine Dk.congr h1 fun i hi => ?_
  simp only [List.length_replicate]
  rw [if_pos (by omega), List.getD_eq_getElem?_getD, List.getElem?_replicate]
  split <;> rfl
/-- copy of a row of digits. -/
theorem copy_run (b n c b2 n2 c2 N : Nat) (f g : Nat → Nat) (hN : n ≤ N) (hn2 : n2 = n) (w : World) (h : Dk w b N f) (h2 : Dk w b2 n g) (ty : TypeId) :
    (Builtin.copy_ #[54, 54] ty #[.slice (some ⟨b, 0, none⟩) n c, .slice (some ⟨b2, 0, none⟩) n2 c2]).run Tryd.prog w = .ok (goInt ((List.range n).map fun v => Value.int .u64 (g v : Nat)).length) (w.setCells b 0 ((List.range n).map fun v => Value.int .u64 (g v : Nat))) :=
  run_copy_cells w 54 54 ty 72 b 0 n c ⟨b2, 0, none⟩ n2 c2 _ und_u64s size_u64 (by subst hn2; simp)
    (fun j v hj => by
      rw [List.getElem?_map] at hj
      by_cases e : j < n
      · rw [List.getElem?_range e] at hj
        cases hj
        rw [Go.WideShapes.add_plain, Nat.zero_add]
        exact h2.cell j e
      · rw [List.getElem?_eq_none (by simp; omega)] at hj; cases hj)
    (fun j hj => by rw [Nat.zero_add, h.cell j (by simp at hj; omega)]; rfl) (fun j _ => h.free _)
    (fun v hv => by simp at hv; obtain ⟨a, _, rfl⟩ := hv; rfl)
theorem copy_dk (b n N : Nat) (f g : Nat → Nat) (w : World) (h : Dk w b N f) (hg : ∀ i, i < n → g i < B64) : Dk (w.setCells b 0 ((List.range n).map fun v => Value.int .u64 (g v : Nat))) b N (fun i => if i < n then g i else f i) := by
  have h1 := Dk.sets ((List.range n).map g) 0 w f h (fun v hv => by simp at hv; obtain ⟨a, ha, rfl⟩ := hv; exact hg a ha)
  rw [List.map_map] at h1
  refine Dk.congr h1 fun i hi => ?_
  simp only [List.length_map, List.length_range]
  by_cases e : i < n
  · rw [if_pos (by omega), if_pos e, List.getD_eq_getElem?_getD, List.getElem?_map, Nat.sub_zero, List.getElem?_range e]; rfl
  · rw [if_neg (by omega), if_neg e]
/-- One digit of a product. -/
theorem times_step (A B R E : Nat → Nat) (i n c : Nat) (ho : ∀ j, j < i → E j = R j) (hs : dv (fun k => E (i + k)) n + c * B64 ^ n = dv (fun k => R (i + k)) n + A i * dv B n) (hR : dv R (i + n) = dv A i * dv B n) (hc : E (i + n) = c) :
    dv E (i + 1 + n) = dv A (i + 1) * dv B n := by
  have h1 : dv (fun k => E (i + k)) (n + 1) = dv (fun k => E (i + k)) n + E (i + n) * B64 ^ n := rfl
  rw [show i + 1 + n = i + (n + 1) by omega, dv_add, h1, hc, hs, dv_congr i ho, dv, Nat.add_mul, ← hR, dv_add, Nat.mul_add, ← Nat.add_assoc, ← Nat.mul_assoc, Nat.mul_comm (B64 ^ i) (A i)]
theorem prod_high (R : Nat → Nat) (n a b M : Nat) (hR : ∀ i, i < n → R i < B64) (h : dv R (n + n) = a * b) (ha : a < M) (hb : b < B64 ^ n) : dv (fun i => R (n + i)) n < M := by
  rw [← dv_div n n hR, h]
  rw [Nat.div_lt_iff_lt_mul (Nat.pow_pos B64_pos)]
  exact Nat.mul_lt_mul_of_lt_of_le ha (Nat.le_of_lt hb) (by omega)
end Go.Proofs.YtjkniebedgiclaaDoor
