/- Texts laid into one: Pb. -/
import Derived.Test.YtidpekcegocjfaaDoorPa
import Derived.Laws.BitsAllLaws
import Derived.Laws.Rows
import Derived.Deep.MidRow
import Derived.Deep.Cut
import Derived.Deep.RegionLaw
import Derived.IntWalk
import Derived.Deep.RegionHeld
import Derived.Deep.QuietTactic
import Derived.BigQuiet
import Derived.RangeFuncNested
import Derived.RangeFuncBound
import Derived.RangeFuncCalls
import Derived.RangeFuncLeaves
import Derived.Shelf.Abstract
import Derived.Shelf.RegionOpen
import Derived.OwnWalkIn
import Derived.TacticsInMore
import Derived.LoopNIn
import Derived.LoopIn
import Derived.Deep.RegionHeld3
/- The reference's words, in plain numbers: sums byte by byte, all bits turned. -/
namespace Go.Proofs.YtidpekcegocjfaaDoor

/-- The carry of the byte sum ahead of byte k. -/
def cyB (a b k : Nat) : Nat := (a % 256 ^ k + b % 256 ^ k) / 256 ^ k
theorem p256_pos (k : Nat) : 0 < 256 ^ k := Nat.pow_pos (by omega)
theorem cyB_zero (a b : Nat) : cyB a b 0 = 0 := by simp [cyB, Nat.mod_one]
theorem cyB_le (a b k : Nat) : cyB a b k ≤ 1 := by
  have ha := Nat.mod_lt a (p256_pos k)
  have hb := Nat.mod_lt b (p256_pos k)
  have : cyB a b k < 2 := Nat.div_lt_of_lt_mul (by omega)
  omega
theorem byA_add (a b k : Nat) : (cyB a b k + byA a k + byA b k) % 256 = byA (a + b) k := by
  unfold byA cyB
  rw [add_div_split a b _ (p256_pos k), show (a % 256 ^ k + b % 256 ^ k) / 256 ^ k + a / 256 ^ k % 256 + b / 256 ^ k % 256 = a / 256 ^ k % 256 + b / 256 ^ k % 256 + (a % 256 ^ k + b % 256 ^ k) / 256 ^ k by omega]
  omega
theorem mod_succ256 (a k : Nat) : a % 256 ^ (k + 1) = a % 256 ^ k + 256 ^ k * (a / 256 ^ k % 256) := by
  rw [Nat.pow_succ, Nat.mod_mul]
theorem cyB_succ (a b k : Nat) : (cyB a b k + byA a k + byA b k) / 256 = cyB a b (k + 1) := by
  unfold byA cyB
  rw [mod_succ256 a k, mod_succ256 b k, Nat.pow_succ, ← Nat.div_div_eq_div_mul]
  have e : a % 256 ^ k + 256 ^ k * (a / 256 ^ k % 256) + (b % 256 ^ k + 256 ^ k * (b / 256 ^ k % 256)) = (a % 256 ^ k + b % 256 ^ k) + 256 ^ k * (a / 256 ^ k % 256 + b / 256 ^ k % 256) := by rw [Nat.mul_add]; omega
  rw [e, Nat.add_mul_div_left _ _ (p256_pos k)]
  congr 1; omega

/-- All bits turned. -/
def ntN (b : Nat) : Nat := MM - 1 - b % MM
theorem ntN_vl (b : Nat) : ntN b = vl (18446744073709551615 - b % MM / B64 ^ 0 % B64) (18446744073709551615 - b % MM / B64 ^ 1 % B64) (18446744073709551615 - b % MM / B64 ^ 2 % B64) (18446744073709551615 - b % MM / B64 ^ 3 % B64) := by
  have h := vl_lb (b % MM) (Nat.mod_lt _ MM_pos)
  have h0 := Nat.mod_lt (b % MM / B64 ^ 0) B64_pos
  have h1 := Nat.mod_lt (b % MM / B64 ^ 1) B64_pos
  have h2 := Nat.mod_lt (b % MM / B64 ^ 2) B64_pos
  have h3 := Nat.mod_lt (b % MM / B64 ^ 3) B64_pos
  generalize b % MM / B64 ^ 0 % B64 = x0 at *
  generalize b % MM / B64 ^ 1 % B64 = x1 at *
  generalize b % MM / B64 ^ 2 % B64 = x2 at *
  generalize b % MM / B64 ^ 3 % B64 = x3 at *
  unfold ntN
  rw [← h, MM_eq]
  unfold vl at *
  unfold B64 at *
  omega
theorem lb_not (b i : Nat) (hi : i < 4) : lb (ntN b) i = 18446744073709551615 - lb b i := by
  have e := ntN_vl b
  have s : ∀ j, 18446744073709551615 - b % MM / B64 ^ j % B64 < B64 := fun j => by unfold B64; omega
  have g : ∀ j, j < 4 → ((18446744073709551615 - b % MM / B64 ^ j % B64 : Nat) : Int) = 18446744073709551615 - lb b j := fun j hj => by
    have h1 : lb (b % MM) j = lb b j := lb_mod b j hj
    have h2 : b % MM / B64 ^ j % B64 < B64 := Nat.mod_lt _ B64_pos
    rw [← h1]; unfold lb
    unfold B64 at h2 ⊢
    omega
  rw [e]
  match i, hi with
  | 0, _ => rw [vl_0 _ _ _ (s 0)]; exact g 0 (by omega)
  | 1, _ => rw [vl_1 _ _ (s 0) (s 1)]; exact g 1 (by omega)
  | 2, _ => rw [vl_2 _ (s 0) (s 1) (s 2)]; exact g 2 (by omega)
  | 3, _ => rw [vl_3 (s 0) (s 1) (s 2) (s 3)]; exact g 3 (by omega)
/-- The difference by turning and one more. -/
theorem sb_nt (a b : Nat) : a + ntN b + 1 = sb a b := by
  have := Nat.mod_lt b MM_pos
  unfold ntN sb; omega
end Go.Proofs.YtidpekcegocjfaaDoor

/- The reference of layer word: Of, Not, Bytes, by contracts. -/
namespace Go.Proofs.YtidpekcegocjfaaDoor
open Go.RowKit
attribute [local go_sem] ix0 ix1 ix2 ix3
theorem rof_any (n : Nat) (h : n < B64) (w : World) :
    Calls Tryd.prog 12 #[.int .u64 n] w fun e w' => e = .returned (W n) ∧ Below w.heap.size w w' := by
  have h0 : (n : Int) = lb n 0 := by unfold lb; rw [Nat.pow_zero, Nat.div_one, Nat.mod_eq_of_lt h]
  have h1 : lb n 1 = 0 := by unfold lb; rw [Nat.div_eq_of_lt (by rw [Nat.pow_one]; exact h)]; rfl
  have h2 : lb n 2 = 0 := by unfold lb; rw [Nat.div_eq_of_lt (by unfold B64 at *; omega)]; rfl
  have h3 : lb n 3 = 0 := by unfold lb; rw [Nat.div_eq_of_lt (by unfold B64 at *; omega)]; rfl
  have e : W n = .agg #[.int .u64 n, .int .u64 0, .int .u64 0, .int .u64 0] := by unfold W; rw [h1, h2, h3, ← h0]
  clear h0 h1 h2 h3
  rw [e]; clear e
  go_enter Tryd.func12, Tryd.ntmps12
  go_wp2
  exact bodyPost_ret (v := .agg #[.int .u64 n, .int .u64 0, .int .u64 0, .int .u64 0]) (by simp [results, Tryd.results12, go_sem]) rfl ⟨rfl, (Below.refl _ _).alloc (Nat.le_refl _) _⟩

theorem xor_max (x : Nat) (h : x < 18446744073709551616) : 18446744073709551615 ^^^ x = 18446744073709551615 - x := by
  have h1 := BitVec.toNat_not (x := BitVec.ofNat 64 x)
  rw [BitVec.not_def, BitVec.toNat_xor, BitVec.toNat_allOnes, BitVec.toNat_ofNat, Nat.mod_eq_of_lt h] at h1
  simpa using h1
theorem not_lb (b i : Nat) : bits .xor .u64 IntKind.u64.max (lb b i) = 18446744073709551615 - lb b i := by
  have h1 : b / B64 ^ i % B64 < 18446744073709551616 := Nat.mod_lt _ B64_pos
  have h := u64_xor_nat 18446744073709551615 (b / B64 ^ i % B64) (by omega) h1
  rw [xor_max _ h1] at h
  have e : IntKind.u64.max = ((18446744073709551615 : Nat) : Int) := by decide
  rw [e]; unfold lb; rw [h]; omega

theorem rnot_any (b : Nat) (w : World) :
    Calls Tryd.prog 35 #[W b] w fun e w' => e = .returned (W (ntN b)) ∧ Below w.heap.size w w' := by
  have e : W (ntN b) = .agg #[.int .u64 (18446744073709551615 - lb b 0), .int .u64 (18446744073709551615 - lb b 1), .int .u64 (18446744073709551615 - lb b 2), .int .u64 (18446744073709551615 - lb b 3)] := by
    unfold W; rw [lb_not b 0 (by omega), lb_not b 1 (by omega), lb_not b 2 (by omega), lb_not b 3 (by omega)]
  rw [e]; clear e
  go_enter Tryd.func35, Tryd.ntmps35
  go_wp2
  simp only [not_lb]
  exact bodyPost_ret (v := .agg #[.int .u64 (18446744073709551615 - lb b 0), .int .u64 (18446744073709551615 - lb b 1), .int .u64 (18446744073709551615 - lb b 2), .int .u64 (18446744073709551615 - lb b 3)]) (by simp [results, Tryd.results35, go_sem]) rfl ⟨rfl, balloc (balloc (Below.refl _ _) _) _⟩

theorem below_setCells' {B b : Nat} {a : World} (hb : B ≤ b) : ∀ (vs : List Value) (o : Nat) (w : World), Below B a w → Below B a (w.setCells b o vs)
  | [], _, _, h => h
  | v :: vs, o, _, h => below_setCells' hb vs (o + 1) _ (h.setCell (p := ⟨b, o, none⟩) hb v)
theorem byC_one (a k : Nat) : (byC a k).all (·.oneCell') = true := by
  rw [Array.all_eq_true_iff_forall_mem]
  intro v hv
  unfold byC at hv
  simp only [List.mem_toArray, List.mem_map] at hv
  obtain ⟨p, _, rfl⟩ := hv
  rfl
theorem Blk.rangeAt {X : World} {g : Nat} {t : TypeId} {cs : Array Value} (h : Blk X g t cs) : X.rangeAt g 0 cs.toList := fun j v hv => by
  rw [Nat.zero_add]
  exact (cell_of_row X g j _ _ _ h).trans (by simpa using hv)
theorem Blk.there {X : World} {g : Nat} {t : TypeId} {cs : Array Value} (h : Blk X g t cs) (n : Nat) (hn : n ≤ cs.size) : X.there g 0 n := fun j hj => by
  rw [Nat.zero_add]
  refine ⟨?_, frozen_of_row X g j _ _ h⟩
  rw [cell_of_row X g j _ _ _ h, Array.getElem?_eq_getElem (by omega)]
  rfl

set_option maxRecDepth 100000 in
set_option maxHeartbeats 1000000 in
theorem rbytes_any (a : Nat) (w : World) :
    Calls Tryd.prog 21 #[W a] w fun e w' => e = .returned (.agg (byC a 32)) ∧ Below w.heap.size w w' := by
  go_enter Tryd.func21, Tryd.ntmps21
  go_wp2
  go_loopw [4] (fun i wr => ∃ k : Nat, k ≤ 32 ∧ i = .int .i64 k ∧ Blk wr (w.heap.size + 1 + 1) 44 (byC a k) ∧ Blk wr w.heap.size 24 (Wc a) ∧ Blk wr (w.heap.size + 1) 44 (byC a 0) ∧ Below w.heap.size w wr) (fun i _ => 32 - (intOf i).toNat)
  case atStart => exact ⟨0, Nat.zero_le _, rfl, by rw [← byC_zero a]; have h := Blk.new ((w.alloc (.cells (Wc a) 24)).alloc (.cells (byC a 0) 44)) 44 (byC a 0); rw [World.size_alloc, World.size_alloc] at h; exact h, ((Blk.new w _ _).alloc _).alloc _, by rw [← byC_zero a]; have h := (Blk.new (w.alloc (.cells (Wc a) 24)) 44 (byC a 0)).alloc (.cells (byC a 0) 44); rw [World.size_alloc] at h; exact h, balloc (balloc (balloc (Below.refl _ _) _) _) _⟩
  case round =>
    obtain ⟨k, hk, rfl, hs, hr, hz, hB⟩ := hrel
    by_cases hlt : k < 32
    · have hc : wr.cell? ⟨w.heap.size, k / 8, none⟩ = some (.int .u64 (lb a (k / 8))) := (cell_of_row wr _ _ _ _ _ hr).trans (by
        have : k / 8 = 0 ∨ k / 8 = 1 ∨ k / 8 = 2 ∨ k / 8 = 3 := by omega
        rcases this with h | h | h | h <;> rw [h] <;> rfl)
      have hd : wr.cell? ⟨w.heap.size + 1 + 1, 31 - k, none⟩ = some (.int .u8 (if 31 - (31 - k) < k then ((byA a (31 - (31 - k)) : Nat) : Int) else 0)) := (cell_of_row wr _ _ _ _ _ hs).trans (byC_get a k _ (by omega))
      have hf := frozen_of_row wr _ (31 - k) _ _ hs
      have HS := Lib.hid hs
      have HR := Lib.hid hr
      have HZ := Lib.hid hz
      clear hs hr hz
      go_wp2
      rw [show 8 * (k % 8) = k % 8 * 8 by omega, by_lb]
      refine ⟨⟨k + 1, by omega, by go_num, ?_, HR.out.kept (grown_set' (grown_refl wr (w.heap.size + 1 + 1)) (31 - k) _) (by simp <;> omega), HZ.out.kept (grown_set' (grown_refl wr (w.heap.size + 1 + 1)) (31 - k) _) (by simp <;> omega), hB.setCell (p := ⟨w.heap.size + 1 + 1, 31 - k, none⟩) (by simp; omega) _⟩, by simp [intOf]; omega⟩
      have h := heap_setCell_same wr (w.heap.size + 1 + 1) (31 - k) _ _ (.int .u8 (byA a k : Nat)) HS.out
      rw [byC_set a k hlt] at h
      exact h
    · obtain rfl : k = 32 := by omega
      have HS := Lib.hid hs
      have HZ := Lib.hid hz
      clear hs hr hz
      have hi : (Tryd.prog.info? 44).map (·.size) = some (byC a 32).size := by rw [byC_size]; kernel_rfl
      have hu : Tryd.prog.underlying 44 = some (.array 32 5) := by kernel_rfl
      have HI := Lib.hid hi
      have HU := Lib.hid hu
      clear hi hu
      go_upto_region 6 with (fail)
      refine wp_region_lit (wpList_load_mid rfl 44 (.tmp 3) rfl (w.heap.size + 1 + 1) 0 rfl (byC a 32).toList _ HS.out.rangeAt HU.out rfl HI.out ?_)
      have ht : wr.there (w.heap.size + 1) 0 (byC a 32).size := HZ.out.there _ (by rw [byC_size, byC_size]; exact Nat.le_refl _)
      refine wpList_store_mid rfl 44 (.tmp 2) (.tmp 22) rfl (w.heap.size + 1) 0 (byC a 32) rfl rfl ht HI.out (byC_one a 32) (wpList_nil ?_)
      have hr : (loadVar 44 ⟨w.heap.size + 1, 0, none⟩).run Tryd.prog (wr.setCells (w.heap.size + 1) 0 (byC a 32).toList) = .ok (.agg (byC a 32)) (wr.setCells (w.heap.size + 1) 0 (byC a 32).toList) :=
        run_loadVar_mid _ _ _ _ (byC a 32).toList _ (World.rangeAt_setCells_same _ _ _ _ ht) HU.out rfl HI.out
      have hB' := below_setCells' (B := w.heap.size) (b := w.heap.size + 1) (by omega) (byC a 32).toList 0 wr hB
      clear ht
      generalize wr.setCells (w.heap.size + 1) 0 (byC a 32).toList = wz at *
      go_wp2
      exact bodyPost_ret (v := .agg (byC a 32)) (by simp [results, Tryd.results21, Act.put, asAddr, hr]) rfl ⟨rfl, hB'⟩
end Go.Proofs.YtidpekcegocjfaaDoor

/- The reference of layer word: From, by a contract. -/
namespace Go.Proofs.YtidpekcegocjfaaDoor
open Go.RowKit
attribute [local go_sem] ix0 ix1 ix2 ix3
theorem p256_split (k : Nat) : 256 ^ k = B64 ^ (k / 8) * 256 ^ (k % 8) := by
  rw [B64_256, ← Nat.pow_mul, ← Nat.pow_add, Nat.div_add_mod]
theorem low_lt (a k : Nat) : a % 256 ^ k / B64 ^ (k / 8) < 256 ^ (k % 8) := by
  apply Nat.div_lt_of_lt_mul
  rw [← p256_split]
  exact Nat.mod_lt _ (p256_pos k)
theorem p256_le (k : Nat) : 256 ^ (k % 8) * 256 ≤ B64 := by
  rw [← Nat.pow_succ, B64_256]
  exact Nat.pow_le_pow_right (by omega) (by have := Nat.mod_lt k (show 0 < 8 by omega); omega)
theorem low_succ (a k : Nat) : a % 256 ^ (k + 1) / B64 ^ (k / 8) = a % 256 ^ k / B64 ^ (k / 8) + 256 ^ (k % 8) * byA a k := by
  rw [mod_succ256]
  conv => lhs; rw [show 256 ^ k * (a / 256 ^ k % 256) = B64 ^ (k / 8) * (256 ^ (k % 8) * (a / 256 ^ k % 256)) by rw [← Nat.mul_assoc, ← p256_split]]
  rw [Nat.add_mul_div_left _ _ (pow_pos' _)]; rfl
/-- The limb that byte k goes into. -/
theorem lb_low (a k : Nat) : lb (a % 256 ^ k) (k / 8) = ((a % 256 ^ k / B64 ^ (k / 8) : Nat) : Int) := by
  unfold lb
  rw [Nat.mod_eq_of_lt]
  have h1 := low_lt a k
  have h2 := p256_le k
  have h3 := p256_pos (k % 8)
  omega
theorem lb_low_succ (a k : Nat) : lb (a % 256 ^ (k + 1)) (k / 8) = ((a % 256 ^ k / B64 ^ (k / 8) + 256 ^ (k % 8) * byA a k : Nat) : Int) := by
  unfold lb
  rw [low_succ, Nat.mod_eq_of_lt]
  have h1 := low_lt a k
  have h2 := p256_le k
  have h4 := byA_lt a k
  have h5 : 256 ^ (k % 8) * byA a k ≤ 256 ^ (k % 8) * 255 := Nat.mul_le_mul_left _ (by omega)
  omega
/-- The other limbs stay. -/
theorem lb_other (a k j : Nat) (h : j ≠ k / 8) : lb (a % 256 ^ (k + 1)) j = lb (a % 256 ^ k) j := by
  unfold lb
  congr 1
  rcases Nat.lt_or_gt_of_ne h with h | h
  · -- below: whole already
    rw [mod_succ256]
    generalize a / 256 ^ k % 256 = d
    have e : 256 ^ k * d = B64 ^ j * (B64 * (B64 ^ (k / 8 - j - 1) * 256 ^ (k % 8) * d)) := by
      have e1 : B64 ^ (k / 8) = B64 ^ j * B64 * B64 ^ (k / 8 - j - 1) := by
        rw [← Nat.pow_succ, ← Nat.pow_add]; congr 1; omega
      rw [p256_split k, e1]
      have e2 : ∀ x y z u v : Nat, x * y * z * u * v = x * (y * (z * u * v)) := fun x y z u v => by simp only [Nat.mul_assoc]
      exact e2 _ _ _ _ _
    rw [e, Nat.add_mul_div_left _ _ (pow_pos' j), Nat.add_mul_mod_self_left]
  · -- above: nought
    have h1 : a % 256 ^ (k + 1) < B64 ^ j := by
      refine Nat.lt_of_lt_of_le (Nat.mod_lt _ (p256_pos _)) ?_
      rw [B64_256, ← Nat.pow_mul]
      exact Nat.pow_le_pow_right (by omega) (by omega)
    have h2 : a % 256 ^ k < B64 ^ j := by
      refine Nat.lt_of_lt_of_le (Nat.mod_lt _ (p256_pos _)) ?_
      rw [B64_256, ← Nat.pow_mul]
      exact Nat.pow_le_pow_right (by omega) (by omega)
    rw [Nat.div_eq_of_lt h1, Nat.div_eq_of_lt h2]

theorem p256_two (r : Nat) : 256 ^ r = 2 ^ (8 * r) := by rw [Nat.pow_mul]
theorem or_low (a k : Nat) : bits .or .u64 (lb (a % 256 ^ k) (k / 8)) (IntKind.u64.wrap (IntKind.u64.wrap ((byA a k : Nat) : Int) * 2 ^ (8 * (k % 8)))) = lb (a % 256 ^ (k + 1)) (k / 8) := by
  have h1 := low_lt a k
  have h2 := p256_le k
  have h3 := p256_pos (k % 8)
  have h4 := byA_lt a k
  have h5 : 256 ^ (k % 8) * byA a k ≤ 256 ^ (k % 8) * 255 := Nat.mul_le_mul_left _ (by omega)
  have hB : B64 = 18446744073709551616 := rfl
  have e0 : IntKind.u64.wrap ((byA a k : Nat) : Int) = ((byA a k : Nat) : Int) := IntWalk.u64_in _ (by omega)
  rw [e0]
  have e : ((byA a k : Nat) : Int) * 2 ^ (8 * (k % 8)) = ((256 ^ (k % 8) * byA a k : Nat) : Int) := by
    rw [p256_two, Nat.mul_comm (2 ^ (8 * (k % 8)))]; simp
  rw [e, IntWalk.u64_in _ (by omega), lb_low, lb_low_succ, u64_or_nat _ _ (by omega) (by omega), Nat.or_comm]
  rw [p256_two (k % 8)] at h1 ⊢
  rw [← Nat.two_pow_add_eq_or_of_lt h1, Nat.add_comm]
theorem wc_set (a k : Nat) (hk : k < 32) : (Wc (a % 256 ^ k)).setIfInBounds (k / 8) (.int .u64 (lb (a % 256 ^ (k + 1)) (k / 8))) = Wc (a % 256 ^ (k + 1)) := by
  have o := lb_other a k
  have h4 : k / 8 = 0 ∨ k / 8 = 1 ∨ k / 8 = 2 ∨ k / 8 = 3 := by omega
  unfold Wc
  rcases h4 with h | h | h | h <;> rw [h] at o ⊢
  · rw [o 1 (by omega), o 2 (by omega), o 3 (by omega)]; rfl
  · rw [o 0 (by omega), o 2 (by omega), o 3 (by omega)]; rfl
  · rw [o 0 (by omega), o 1 (by omega), o 3 (by omega)]; rfl
  · rw [o 0 (by omega), o 1 (by omega), o 2 (by omega)]; rfl
theorem MM_256 : MM = 256 ^ 32 := by unfold MM; rw [B64_256, ← Nat.pow_mul]
theorem wc_get (a k : Nat) (hk : k < 4) : (Wc a)[k]? = some (.int .u64 (lb a k)) := by
  match k, hk with
  | 0, _ | 1, _ | 2, _ | 3, _ => rfl

set_option maxRecDepth 100000 in
set_option maxHeartbeats 1000000 in
theorem rfrom_any (a : Nat) (w : World) :
    Calls Tryd.prog 25 #[.agg (byC a 32)] w fun e w' => e = .returned (W a) ∧ Below w.heap.size w w' := by
  go_enter Tryd.func25, Tryd.ntmps25
  go_wp2_with fail
  go_loopw [4] (fun i wr => ∃ k : Nat, k ≤ 32 ∧ i = .int .i64 k ∧ Blk wr (w.heap.size + 1 + 1) 24 (Wc (a % 256 ^ k)) ∧ Blk wr w.heap.size 44 (byC a 32) ∧ Blk wr (w.heap.size + 1) 24 #[.int .u64 0, .int .u64 0, .int .u64 0, .int .u64 0] ∧ Below w.heap.size w wr) (fun i _ => 32 - (intOf i).toNat)
  case atStart =>
    refine ⟨0, Nat.zero_le _, rfl, ?_, ?_, ?_, ?_⟩
    · have h := Blk.new ((w.alloc (.cells (byC a 32) 44)).alloc (.cells #[.int .u64 0, .int .u64 0, .int .u64 0, .int .u64 0] 24)) 24 (Wc (a % 256 ^ 0))
      rw [Nat.pow_zero, Nat.mod_one] at h ⊢
      unfold Wc at h ⊢
      simp only [lb_zero] at h ⊢
      rw [World.size_alloc, World.size_alloc] at h
      exact h
    · exact ((Blk.new w _ _).alloc _).alloc _
    · have h := (Blk.new (w.alloc (.cells (byC a 32) 44)) 24 #[.int .u64 0, .int .u64 0, .int .u64 0, .int .u64 0]).alloc (.cells #[.int .u64 0, .int .u64 0, .int .u64 0, .int .u64 0] 24)
      rw [World.size_alloc] at h
      exact h
    · exact balloc (balloc (balloc (Below.refl _ _) _) _) _
  case round =>
    obtain ⟨k, hk, rfl, hs, hr, hz, hB⟩ := hrel
    by_cases hlt : k < 32
    · have hc := (cell_of_row wr _ _ _ _ _ hs).trans (wc_get (a % 256 ^ k) (k / 8) (by omega))
      have hd : wr.cell? ⟨w.heap.size, 31 - k, none⟩ = some (.int .u8 (if 31 - (31 - k) < 32 then ((byA a (31 - (31 - k)) : Nat) : Int) else 0)) := (cell_of_row wr _ _ _ _ _ hr).trans (byC_get a 32 _ (by omega))
      rw [show 31 - (31 - k) = k by omega, if_pos hlt] at hd
      have hf := frozen_of_row wr _ (k / 8) _ _ hs
      have HS := Lib.hid hs
      have HR := Lib.hid hr
      have HZ := Lib.hid hz
      clear hs hr hz
      have g1 : IntKind.i64.wrap ((k : Int) / 8) = (k : Int) / 8 := IntWalk.i64_in _ (by omega)
      have g2 : (0 : Int) ≤ (k : Int) / 8 := by omega
      have g3 : (k : Int) / 8 < 4 := by omega
      have g4 : ((k : Int) / 8).toNat = k / 8 := by omega
      have g5 : IntKind.i64.wrap (31 - (k : Int)) = 31 - (k : Int) := IntWalk.i64_in _ (by omega)
      have g6 : (0 : Int) ≤ 31 - (k : Int) := by omega
      have g7 : 31 - (k : Int) < 32 := by omega
      have g8 : (31 - (k : Int)).toNat = 31 - k := by omega
      have g9 : (k : Int).tmod 8 = (k : Int) % 8 := Int.tmod_eq_emod_of_nonneg (by omega)
      have g10 : IntKind.i64.wrap (8 * ((k : Int) % 8)) = 8 * ((k : Int) % 8) := IntWalk.i64_in _ (by omega)
      have g11 : IntKind.u64.wrap (8 * ((k : Int) % 8)) = 8 * ((k : Int) % 8) := IntWalk.u64_in _ (by omega)
      have g12 : (k : Int) ≤ 31 := by omega
      have g13 : (0 : Int) ≤ (k : Int) % 8 := by omega
      have g14 : (0 : Int) ≤ 8 * ((k : Int) % 8) := by omega
      have g15 : (8 * ((k : Int) % 8)).toNat = 8 * (k % 8) := by omega
      go_wp2_with fail
      go_region_law (fail)
      all_goals go_wp2
      all_goals rw [or_low]
      all_goals
        have G := grown_set' (grown_refl wr (w.heap.size + 1 + 1)) (k / 8) (.int .u64 (lb (a % 256 ^ (k + 1)) (k / 8)))
        have h := heap_setCell_same wr (w.heap.size + 1 + 1) (k / 8) _ _ (.int .u64 (lb (a % 256 ^ (k + 1)) (k / 8))) HS.out
        rw [wc_set a k hlt] at h
        have hR2 := HR.out.kept G (by simp <;> omega)
        have hZ2 := HZ.out.kept G (by simp <;> omega)
        exact ⟨⟨k + 1, by omega, by go_num, h, hR2, hZ2, (hB.setCell (p := ⟨w.heap.size + 1 + 1, k / 8, none⟩) (by simp; omega) _).drew⟩, by simp [intOf]; omega⟩
    · obtain rfl : k = 32 := by omega
      rw [← MM_256] at hs
      have e : Wc (a % MM) = Wc a := by unfold Wc; rw [lb_mod a 0 (by omega), lb_mod a 1 (by omega), lb_mod a 2 (by omega), lb_mod a 3 (by omega)]
      rw [e] at hs
      have c0 := (cell_of_row wr _ 0 _ _ _ hs).trans (wc_get a 0 (by omega))
      have c1 := (cell_of_row wr _ 1 _ _ _ hs).trans (wc_get a 1 (by omega))
      have c2 := (cell_of_row wr _ 2 _ _ _ hs).trans (wc_get a 2 (by omega))
      have c3 := (cell_of_row wr _ 3 _ _ _ hs).trans (wc_get a 3 (by omega))
      have r0 := cell_of_row wr _ 0 _ _ _ hz
      have r1 := cell_of_row wr _ 1 _ _ _ hz
      have r2 := cell_of_row wr _ 2 _ _ _ hz
      have r3 := cell_of_row wr _ 3 _ _ _ hz
      have f0 := frozen_of_row wr _ 0 _ _ hz
      have f1 := frozen_of_row wr _ 1 _ _ hz
      have f2 := frozen_of_row wr _ 2 _ _ hz
      have f3 := frozen_of_row wr _ 3 _ _ hz
      clear hs hr hz e
      go_wp2
      exact bodyPost_ret (v := W a) (by simp [results, Tryd.results25, go_sem, r0, r1, r2, r3]) rfl ⟨rfl, (((hB.setCell (p := ⟨w.heap.size + 1, 0, none⟩) (by simp) _).setCell (p := ⟨w.heap.size + 1, 1, none⟩) (by simp) _).setCell (p := ⟨w.heap.size + 1, 2, none⟩) (by simp) _).setCell (p := ⟨w.heap.size + 1, 3, none⟩) (by simp) _⟩
end Go.Proofs.YtidpekcegocjfaaDoor

/- The reference of layer word: Add, the cells of the loop (the walk is not written yet). -/
namespace Go.Proofs.YtidpekcegocjfaaDoor
open Go.RowKit

/-- 32 cells: the lowest k bytes of the sum, above them a's. -/
def adC (a b k : Nat) : Array Value := ((List.range 32).map fun p => Value.int .u8 (if 31 - p < k then ((byA (a + b) (31 - p) : Nat) : Int) else ((byA a (31 - p) : Nat) : Int))).toArray
theorem adC_get (a b k p : Nat) (hp : p < 32) : (adC a b k)[p]? = some (.int .u8 (if 31 - p < k then ((byA (a + b) (31 - p) : Nat) : Int) else ((byA a (31 - p) : Nat) : Int))) := by
  unfold adC; simp [hp]
theorem adC_size (a b k : Nat) : (adC a b k).size = 32 := by unfold adC; simp
theorem adC_zero (a b : Nat) : adC a b 0 = byC a 32 := by
  apply Array.ext_getElem?
  intro p
  by_cases hp : p < 32
  · rw [adC_get _ _ _ _ hp, byC_get _ _ _ hp, if_neg (by omega), if_pos (by omega)]
  · rw [Array.getElem?_eq_none (by rw [adC_size]; omega), Array.getElem?_eq_none (by rw [byC_size]; omega)]
theorem adC_all (a b : Nat) : adC a b 32 = byC (a + b) 32 := by
  apply Array.ext_getElem?
  intro p
  by_cases hp : p < 32
  · rw [adC_get _ _ _ _ hp, byC_get _ _ _ hp, if_pos (by omega), if_pos (by omega)]
  · rw [Array.getElem?_eq_none (by rw [adC_size]; omega), Array.getElem?_eq_none (by rw [byC_size]; omega)]
theorem adC_set (a b k : Nat) (hk : k < 32) : (adC a b k).setIfInBounds (31 - k) (.int .u8 (byA (a + b) k : Nat)) = adC a b (k + 1) := by
  apply Array.ext_getElem?
  intro p
  by_cases hp : p < 32
  · rw [Array.getElem?_setIfInBounds, adC_size, adC_get _ _ _ _ hp, adC_get _ _ _ _ hp]
    by_cases h : 31 - k = p
    · subst h
      rw [if_pos rfl, if_pos (by omega), if_pos (by omega), show 31 - (31 - k) = k from by omega]
    · rw [if_neg h]
      by_cases g : 31 - p < k
      · rw [if_pos g, if_pos (by omega)]
      · rw [if_neg g, if_neg (by omega)]
  · rw [Array.getElem?_eq_none (by rw [Array.size_setIfInBounds, adC_size]; omega), Array.getElem?_eq_none (by rw [adC_size]; omega)]

end Go.Proofs.YtidpekcegocjfaaDoor

/- The reference of layer word: Add, by a contract. -/
namespace Go.Proofs.YtidpekcegocjfaaDoor
open Go.RowKit
attribute [local go_sem] ix0 ix1 ix2 ix3
theorem Blk.keep {X Y : World} {g : Nat} {t : TypeId} {cs : Array Value} (h : Blk X g t cs) (k : Below X.heap.size X Y) : Blk Y g t cs := (k.block g h.lt).trans h
theorem rstep {w W w1 : World} (k : Below W.heap.size W w1) (h : Below w.heap.size w W) : Below w.heap.size w w1 := bstep h k
theorem Blk.drewR {X : World} {g : Nat} {t : TypeId} {cs : Array Value} (h : Blk X g t cs) : Blk X.drew g t cs := h
theorem Blk.newS (X : World) (o : Obj) (t : TypeId) (cs : Array Value) : Blk ((X.alloc o).alloc (.cells cs t)) (X.heap.size + 1) t cs := by
  have h := Blk.new (X.alloc o) t cs
  rwa [World.size_alloc] at h
theorem join2 {C : Nat → Nat → World → Prop} {G : Prop} (P : Nat → Nat → World → Prop) (main : (∀ X Y wz, C X Y wz → P X Y wz) → G) (hrest : ∀ X Y wz, C X Y wz → P X Y wz) : G := main hrest
theorem World.size_drew' (w : World) : w.drew.heap.size = w.heap.size := rfl
theorem blk_setCells_any (b : Nat) (t : TypeId) : ∀ (vs : List Value) (o : Nat) (w : World) (cs : Array Value), Blk w b t cs → ∃ cs', cs'.size = cs.size ∧ Blk (w.setCells b o vs) b t cs'
  | [], _, _, cs, h => ⟨cs, rfl, h⟩
  | v :: vs, o, w, cs, h => by
    obtain ⟨cs', h1, h2⟩ := blk_setCells_any b t vs (o + 1) (w.setCell ⟨b, o, none⟩ v) (cs.setIfInBounds o v) (heap_setCell_same w b o _ _ v h)
    exact ⟨cs', by rw [h1, Array.size_setIfInBounds], h2⟩
/-- A whole block is laid anew. -/
theorem blk_setCells {w : World} {b : Nat} {t : TypeId} {cs : Array Value} (h : Blk w b t cs) (vs : Array Value) (hs : vs.size = cs.size) (_h1 : vs.all (·.oneCell') = true) : Blk (w.setCells b 0 vs.toList) b t vs := by
  obtain ⟨cs', h1, h2⟩ := blk_setCells_any b t vs.toList 0 w cs h
  have h3 := World.rangeAt_setCells_same w b 0 vs.toList (h.there _ (by rw [Array.length_toList, hs]; exact Nat.le_refl _))
  have e : cs' = vs := by
    apply Array.ext_getElem?
    intro j
    by_cases hj : j < vs.size
    · have h4 := h3 j vs[j] (by simp [hj])
      rw [Nat.zero_add] at h4
      rw [← cell_of_row _ b j _ _ _ h2, h4, Array.getElem?_eq_getElem hj]
    · rw [Array.getElem?_eq_none (by omega), Array.getElem?_eq_none (by omega)]
  rw [← e]; rw [e] at h2 ⊢; exact h2
theorem blk_setCells_far {g : Nat} {t : TypeId} {cs : Array Value} {w : World} (h : Blk w g t cs) (b : Nat) : ∀ (o : Nat) (vs : List Value), g ≠ b → Blk (w.setCells b o vs) g t cs := by
  intro o vs hne
  induction vs generalizing o w with
  | nil => exact h
  | cons v vs ih => exact ih ((Below.heap_setCell w ⟨b, o, none⟩ v g hne).trans h) (o + 1)

set_option maxRecDepth 100000 in
set_option maxHeartbeats 4000000 in
theorem radd_any (a b : Nat) (w : World) :
    Calls Tryd.prog 17 #[W a, W b] w fun e w' => e = .returned (W (a + b)) ∧ Below w.heap.size w w' := by
  have hi : ∀ c : Nat, (Tryd.prog.info? 44).map (·.size) = some (byC c 32).size := fun c => by rw [byC_size]; kernel_rfl
  have HI := fun c => Lib.hid (hi c)
  clear hi
  go_enter Tryd.func17, Tryd.ntmps17
  go_wp2_with fail
  have A : Blk (((w.alloc (.cells (Wc a) 24)).alloc (.cells (Wc b) 24)).alloc (.cells (Wc 0) 24)) w.heap.size 24 (Wc a) := ((Blk.new _ _ _).alloc _).alloc _
  have B : Blk (((w.alloc (.cells (Wc a) 24)).alloc (.cells (Wc b) 24)).alloc (.cells (Wc 0) 24)) (w.heap.size + 1) 24 (Wc b) := (Blk.newS w _ _ _).alloc _
  have R : Blk (((w.alloc (.cells (Wc a) 24)).alloc (.cells (Wc b) 24)).alloc (.cells (Wc 0) 24)) (w.heap.size + 1 + 1) 24 (Wc 0) := by
    have h := Blk.newS (w.alloc (.cells (Wc a) 24)) (.cells (Wc b) 24) 24 (Wc 0)
    rwa [World.size_alloc] at h
  have hW : Below w.heap.size w (((w.alloc (.cells (Wc a) 24)).alloc (.cells (Wc b) 24)).alloc (.cells (Wc 0) 24)) := balloc (balloc (balloc (Below.refl _ _) _) _) _
  have e0 : Wc 0 = #[.int .u64 0, .int .u64 0, .int .u64 0, .int .u64 0] := by unfold Wc; simp only [lb_zero]
  obtain ⟨W0, hW0⟩ : ∃ W0, ((w.alloc (.cells (Wc a) 24)).alloc (.cells (Wc b) 24)).alloc (.cells (Wc 0) 24) = W0 := ⟨_, rfl⟩
  rw [hW0] at A B R hW
  rw [e0] at hW0
  rw [hW0]
  clear hW0 e0
  have cA0 : ∀ w', Below W0.heap.size W0 w' → w'.cell? ⟨w.heap.size, 0, none⟩ = some (.int .u64 (lb a 0)) := fun w' h => (h.cell (p := ⟨w.heap.size, 0, none⟩) A.lt).trans (cell_of_row _ _ 0 _ _ _ A)
  have cA1 : ∀ w', Below W0.heap.size W0 w' → w'.cell? ⟨w.heap.size, 1, none⟩ = some (.int .u64 (lb a 1)) := fun w' h => (h.cell (p := ⟨w.heap.size, 1, none⟩) A.lt).trans (cell_of_row _ _ 1 _ _ _ A)
  have cA2 : ∀ w', Below W0.heap.size W0 w' → w'.cell? ⟨w.heap.size, 2, none⟩ = some (.int .u64 (lb a 2)) := fun w' h => (h.cell (p := ⟨w.heap.size, 2, none⟩) A.lt).trans (cell_of_row _ _ 2 _ _ _ A)
  have cA3 : ∀ w', Below W0.heap.size W0 w' → w'.cell? ⟨w.heap.size, 3, none⟩ = some (.int .u64 (lb a 3)) := fun w' h => (h.cell (p := ⟨w.heap.size, 3, none⟩) A.lt).trans (cell_of_row _ _ 3 _ _ _ A)
  have cB0 : ∀ w', Below W0.heap.size W0 w' → w'.cell? ⟨w.heap.size + 1, 0, none⟩ = some (.int .u64 (lb b 0)) := fun w' h => (h.cell (p := ⟨w.heap.size + 1, 0, none⟩) B.lt).trans (cell_of_row _ _ 0 _ _ _ B)
  have cB1 : ∀ w', Below W0.heap.size W0 w' → w'.cell? ⟨w.heap.size + 1, 1, none⟩ = some (.int .u64 (lb b 1)) := fun w' h => (h.cell (p := ⟨w.heap.size + 1, 1, none⟩) B.lt).trans (cell_of_row _ _ 1 _ _ _ B)
  have cB2 : ∀ w', Below W0.heap.size W0 w' → w'.cell? ⟨w.heap.size + 1, 2, none⟩ = some (.int .u64 (lb b 2)) := fun w' h => (h.cell (p := ⟨w.heap.size + 1, 2, none⟩) B.lt).trans (cell_of_row _ _ 2 _ _ _ B)
  have cB3 : ∀ w', Below W0.heap.size W0 w' → w'.cell? ⟨w.heap.size + 1, 3, none⟩ = some (.int .u64 (lb b 3)) := fun w' h => (h.cell (p := ⟨w.heap.size + 1, 3, none⟩) B.lt).trans (cell_of_row _ _ 3 _ _ _ B)
  have HR := Lib.hid R
  have HW := Lib.hid hW
  have hRl := R.lt
  clear A B R hW
  refine join2 (C := fun X Y wz => Blk wz X 44 (byC 0 0) ∧ Blk wz Y 44 (byC 0 0) ∧ X ≠ Y ∧ W0.heap.size ≤ X ∧ W0.heap.size ≤ Y ∧ Below W0.heap.size W0 wz) ?PJ ?main ?hrest
  case main =>
    intro rest
    refine wp_region_held_drew (S := fun w' => Below W0.heap.size W0 w') (by as_aux_lemma => kernel_rfl) (Below.refl _ _).drew (fun hHeld => ?_)
    simp only [List.size_toArray, List.length_cons, List.length_nil, Nat.reduceAdd, Array.replicate_succ, Array.replicate_zero, List.push_toArray, List.nil_append, List.cons_append]
    refine wpAnyH_take (i := 0) (oi := { dst := some 9, op := Op.load 24 (Operand.tmp 2), type := 24, pos := "ref.go:38", after := #[], guard := none }) (v := ?vq0) rfl (by as_aux_lemma => kernel_rfl) (by as_aux_lemma => kernel_rfl) (by as_aux_lemma => kernel_rfl) (fun _ _ _ h => h) (Or.inl ⟨by rfl, ?yq0⟩) (by assumption) ?rq0
    case yq0 => (intro w hSw; (try dsimp only at hSw); go_simp <;> with_reducible rfl)
    simp only [Act.put, List.setIfInBounds_toArray, List.set_cons_zero, List.set_cons_succ]
    refine wpAnyH_take (i := 2) (oi := { dst := some 11, op := Op.load 24 (Operand.tmp 3), type := 24, pos := "ref.go:38", after := #[], guard := none }) (v := ?vq1) rfl (by as_aux_lemma => kernel_rfl) (by as_aux_lemma => kernel_rfl) (by as_aux_lemma => kernel_rfl) (fun _ _ _ h => h) (Or.inl ⟨by rfl, ?yq1⟩) (by assumption) ?rq1
    case yq1 => (intro w hSw; (try dsimp only at hSw); go_simp <;> with_reducible rfl)
    simp only [Act.put, List.setIfInBounds_toArray, List.set_cons_zero, List.set_cons_succ]
    refine wpAnyH_ready (rs := [1, 4, 5]) (by as_aux_lemma => kernel_rfl) (by simp) ?_
    refine AllReadyH.cons (o := { dst := some 10, op := Op.call { callee := Callee.value (Operand.func 21), args := #[Operand.tmp 9], argTypes := #[24] }, type := 44, pos := "ref.go:38", after := #[{ on := 0, ground := Ground.data }], guard := none }) rfl (fun K hK => ?_) ?_
    · go_simp
      (go_at_call 21; refine (rbytes_any _ _).mono ?_; rintro e wk1 ⟨rfl, hk1⟩)
      refine hK.out _ _ (by (try dsimp only); (first | assumption | exact (Below.refl _ _).drew | exact (balloc (Below.refl _ _) _).drew | exact rstep (by assumption) (by assumption) | exact balloc (by assumption) _ | exact balloc (balloc (by assumption) _) _)) (fun hHeld => ?_)
      clear hK K
      simp only [List.setIfInBounds_toArray, List.set_cons_zero, List.set_cons_succ]
      refine wpAnyH_ready (rs := [3, 4, 5]) (by as_aux_lemma => kernel_rfl) (by simp) ?_
      refine AllReadyH.cons (o := { dst := some 12, op := Op.call { callee := Callee.value (Operand.func 21), args := #[Operand.tmp 11], argTypes := #[24] }, type := 44, pos := "ref.go:38", after := #[{ on := 2, ground := Ground.data }, { on := 1, ground := Ground.chain }], guard := none }) rfl (fun K hK => ?_) ?_
      · go_simp
        (go_at_call 21; refine (rbytes_any _ _).mono ?_; rintro e wk3 ⟨rfl, hk3⟩)
        refine hK.out _ _ (by (try dsimp only); (first | assumption | exact (Below.refl _ _).drew | exact (balloc (Below.refl _ _) _).drew | exact rstep (by assumption) (by assumption) | exact balloc (by assumption) _ | exact balloc (balloc (by assumption) _) _)) (fun hHeld => ?_)
        clear hK K
        simp only [List.setIfInBounds_toArray, List.set_cons_zero, List.set_cons_succ]
        refine wpAnyH_ready (rs := [4, 5]) (by as_aux_lemma => kernel_rfl) (by simp) ?_
        refine AllReadyH.cons (o := { dst := some 5, op := Op.alloc 44, type := 0, pos := "ref.go:38", after := #[], guard := none }) rfl (fun K hK => ?_) ?_
        · go_simp
          refine hK.out _ _ (by (try dsimp only); (first | assumption | exact (Below.refl _ _).drew | exact (balloc (Below.refl _ _) _).drew | exact rstep (by assumption) (by assumption) | exact balloc (by assumption) _ | exact balloc (balloc (by assumption) _) _)) (fun hHeld => ?_)
          clear hK K
          simp only [List.setIfInBounds_toArray, List.set_cons_zero, List.set_cons_succ]
          refine wpAnyH_ready (rs := [5]) (by as_aux_lemma => kernel_rfl) (by simp) ?_
          refine AllReadyH.cons (o := { dst := some 6, op := Op.alloc 44, type := 0, pos := "ref.go:38", after := #[], guard := none }) rfl (fun K hK => ?_) (by exact AllReadyH.nil)
          go_simp
          refine hK.out _ _ (by (try dsimp only); (first | assumption | exact (Below.refl _ _).drew | exact (balloc (Below.refl _ _) _).drew | exact rstep (by assumption) (by assumption) | exact balloc (by assumption) _ | exact balloc (balloc (by assumption) _) _)) (fun hHeld => ?_)
          clear hK K
          simp only [List.setIfInBounds_toArray, List.set_cons_zero, List.set_cons_succ]
          have z1 : Blk ((wk3.alloc (.cells (byC 0 0) 44)).alloc (.cells (byC 0 0) 44)) wk3.heap.size 44 (byC 0 0) := (Blk.new _ _ _).alloc _
          have z2 : Blk ((wk3.alloc (.cells (byC 0 0) 44)).alloc (.cells (byC 0 0) 44)) (wk3.heap.size + 1) 44 (byC 0 0) := Blk.newS _ _ _ _
          have z3 : wk3.heap.size ≠ wk3.heap.size + 1 := by omega
          have z4 : W0.heap.size ≤ wk3.heap.size := by (have e1 := hk1.size; have e3 := hk3.size; first | (simp only [World.size_drew'] at e1 e3 ⊢; omega) | (simp only [World.size_alloc, World.size_drew'] at e1 e3 ⊢; omega))
          have z5 : W0.heap.size ≤ wk3.heap.size + 1 := by omega
          rw [byC_zero 0] at z1 z2
          have z6 := hHeld
          clear hHeld
          generalize ((wk3.alloc _).alloc _) = wz at z1 z2 z6 ⊢
          generalize wk3.heap.size + 1 = Y at z2 z3 z5 ⊢
          generalize wk3.heap.size = X at z1 z3 z4 ⊢
          rw [← byC_zero 0] at z1 z2
          exact rest X Y wz ⟨z1, z2, z3, z4, z5, z6⟩
        refine AllReadyH.cons (o := { dst := some 6, op := Op.alloc 44, type := 0, pos := "ref.go:38", after := #[], guard := none }) rfl (fun K hK => ?_) (by exact AllReadyH.nil)
        go_simp
        refine hK.out _ _ (by (try dsimp only); (first | assumption | exact (Below.refl _ _).drew | exact (balloc (Below.refl _ _) _).drew | exact rstep (by assumption) (by assumption) | exact balloc (by assumption) _ | exact balloc (balloc (by assumption) _) _)) (fun hHeld => ?_)
        clear hK K
        simp only [List.setIfInBounds_toArray, List.set_cons_zero, List.set_cons_succ]
        refine wpAnyH_ready (rs := [4]) (by as_aux_lemma => kernel_rfl) (by simp) ?_
        refine AllReadyH.cons (o := { dst := some 5, op := Op.alloc 44, type := 0, pos := "ref.go:38", after := #[], guard := none }) rfl (fun K hK => ?_) (by exact AllReadyH.nil)
        go_simp
        refine hK.out _ _ (by (try dsimp only); (first | assumption | exact (Below.refl _ _).drew | exact (balloc (Below.refl _ _) _).drew | exact rstep (by assumption) (by assumption) | exact balloc (by assumption) _ | exact balloc (balloc (by assumption) _) _)) (fun hHeld => ?_)
        clear hK K
        simp only [List.setIfInBounds_toArray, List.set_cons_zero, List.set_cons_succ]
        refine rest _ _ _ ⟨?_, ?_, ?_, ?_, ?_, hHeld⟩
        · (rw [byC_zero]; repeat (first | exact Blk.new _ _ _ | exact Blk.newS _ _ _ _ | with_reducible refine Blk.drewR ?_ | with_reducible refine Blk.alloc ?_ _ | refine Blk.keep ?_ hk3 | refine Blk.keep ?_ hk1))
        · (rw [byC_zero]; repeat (first | exact Blk.new _ _ _ | exact Blk.newS _ _ _ _ | with_reducible refine Blk.drewR ?_ | with_reducible refine Blk.alloc ?_ _ | refine Blk.keep ?_ hk3 | refine Blk.keep ?_ hk1))
        · (have e1 := hk1.size; have e3 := hk3.size; first | (simp only [World.size_drew'] at e1 e3 ⊢; omega) | (simp only [World.size_alloc, World.size_drew'] at e1 e3 ⊢; omega))
        · (have e1 := hk1.size; have e3 := hk3.size; first | (simp only [World.size_drew'] at e1 e3 ⊢; omega) | (simp only [World.size_alloc, World.size_drew'] at e1 e3 ⊢; omega))
        · (have e1 := hk1.size; have e3 := hk3.size; first | (simp only [World.size_drew'] at e1 e3 ⊢; omega) | (simp only [World.size_alloc, World.size_drew'] at e1 e3 ⊢; omega))
      refine AllReadyH.cons (o := { dst := some 5, op := Op.alloc 44, type := 0, pos := "ref.go:38", after := #[], guard := none }) rfl (fun K hK => ?_) ?_
      · go_simp
        refine hK.out _ _ (by (try dsimp only); (first | assumption | exact (Below.refl _ _).drew | exact (balloc (Below.refl _ _) _).drew | exact rstep (by assumption) (by assumption) | exact balloc (by assumption) _ | exact balloc (balloc (by assumption) _) _)) (fun hHeld => ?_)
        clear hK K
        simp only [List.setIfInBounds_toArray, List.set_cons_zero, List.set_cons_succ]
        refine wpAnyH_ready (rs := [3, 5]) (by as_aux_lemma => kernel_rfl) (by simp) ?_
        refine AllReadyH.cons (o := { dst := some 12, op := Op.call { callee := Callee.value (Operand.func 21), args := #[Operand.tmp 11], argTypes := #[24] }, type := 44, pos := "ref.go:38", after := #[{ on := 2, ground := Ground.data }, { on := 1, ground := Ground.chain }], guard := none }) rfl (fun K hK => ?_) ?_
        · go_simp
          (go_at_call 21; refine (rbytes_any _ _).mono ?_; rintro e wk3 ⟨rfl, hk3⟩)
          refine hK.out _ _ (by (try dsimp only); (first | assumption | exact (Below.refl _ _).drew | exact (balloc (Below.refl _ _) _).drew | exact rstep (by assumption) (by assumption) | exact balloc (by assumption) _ | exact balloc (balloc (by assumption) _) _)) (fun hHeld => ?_)
          clear hK K
          simp only [List.setIfInBounds_toArray, List.set_cons_zero, List.set_cons_succ]
          refine wpAnyH_ready (rs := [5]) (by as_aux_lemma => kernel_rfl) (by simp) ?_
          refine AllReadyH.cons (o := { dst := some 6, op := Op.alloc 44, type := 0, pos := "ref.go:38", after := #[], guard := none }) rfl (fun K hK => ?_) (by exact AllReadyH.nil)
          go_simp
          refine hK.out _ _ (by (try dsimp only); (first | assumption | exact (Below.refl _ _).drew | exact (balloc (Below.refl _ _) _).drew | exact rstep (by assumption) (by assumption) | exact balloc (by assumption) _ | exact balloc (balloc (by assumption) _) _)) (fun hHeld => ?_)
          clear hK K
          simp only [List.setIfInBounds_toArray, List.set_cons_zero, List.set_cons_succ]
          refine rest _ _ _ ⟨?_, ?_, ?_, ?_, ?_, hHeld⟩
          · (rw [byC_zero]; repeat (first | exact Blk.new _ _ _ | exact Blk.newS _ _ _ _ | with_reducible refine Blk.drewR ?_ | with_reducible refine Blk.alloc ?_ _ | refine Blk.keep ?_ hk3 | refine Blk.keep ?_ hk1))
          · (rw [byC_zero]; repeat (first | exact Blk.new _ _ _ | exact Blk.newS _ _ _ _ | with_reducible refine Blk.drewR ?_ | with_reducible refine Blk.alloc ?_ _ | refine Blk.keep ?_ hk3 | refine Blk.keep ?_ hk1))
          · (have e1 := hk1.size; have e3 := hk3.size; first | (simp only [World.size_drew'] at e1 e3 ⊢; omega) | (simp only [World.size_alloc, World.size_drew'] at e1 e3 ⊢; omega))
          · (have e1 := hk1.size; have e3 := hk3.size; first | (simp only [World.size_drew'] at e1 e3 ⊢; omega) | (simp only [World.size_alloc, World.size_drew'] at e1 e3 ⊢; omega))
          · (have e1 := hk1.size; have e3 := hk3.size; first | (simp only [World.size_drew'] at e1 e3 ⊢; omega) | (simp only [World.size_alloc, World.size_drew'] at e1 e3 ⊢; omega))
        refine AllReadyH.cons (o := { dst := some 6, op := Op.alloc 44, type := 0, pos := "ref.go:38", after := #[], guard := none }) rfl (fun K hK => ?_) (by exact AllReadyH.nil)
        go_simp
        refine hK.out _ _ (by (try dsimp only); (first | assumption | exact (Below.refl _ _).drew | exact (balloc (Below.refl _ _) _).drew | exact rstep (by assumption) (by assumption) | exact balloc (by assumption) _ | exact balloc (balloc (by assumption) _) _)) (fun hHeld => ?_)
        clear hK K
        simp only [List.setIfInBounds_toArray, List.set_cons_zero, List.set_cons_succ]
        refine wpAnyH_ready (rs := [3]) (by as_aux_lemma => kernel_rfl) (by simp) ?_
        refine AllReadyH.cons (o := { dst := some 12, op := Op.call { callee := Callee.value (Operand.func 21), args := #[Operand.tmp 11], argTypes := #[24] }, type := 44, pos := "ref.go:38", after := #[{ on := 2, ground := Ground.data }, { on := 1, ground := Ground.chain }], guard := none }) rfl (fun K hK => ?_) (by exact AllReadyH.nil)
        go_simp
        (go_at_call 21; refine (rbytes_any _ _).mono ?_; rintro e wk3 ⟨rfl, hk3⟩)
        refine hK.out _ _ (by (try dsimp only); (first | assumption | exact (Below.refl _ _).drew | exact (balloc (Below.refl _ _) _).drew | exact rstep (by assumption) (by assumption) | exact balloc (by assumption) _ | exact balloc (balloc (by assumption) _) _)) (fun hHeld => ?_)
        clear hK K
        simp only [List.setIfInBounds_toArray, List.set_cons_zero, List.set_cons_succ]
        refine rest _ _ _ ⟨?_, ?_, ?_, ?_, ?_, hHeld⟩
        · (rw [byC_zero]; repeat (first | exact Blk.new _ _ _ | exact Blk.newS _ _ _ _ | with_reducible refine Blk.drewR ?_ | with_reducible refine Blk.alloc ?_ _ | refine Blk.keep ?_ hk3 | refine Blk.keep ?_ hk1))
        · (rw [byC_zero]; repeat (first | exact Blk.new _ _ _ | exact Blk.newS _ _ _ _ | with_reducible refine Blk.drewR ?_ | with_reducible refine Blk.alloc ?_ _ | refine Blk.keep ?_ hk3 | refine Blk.keep ?_ hk1))
        · (have e1 := hk1.size; have e3 := hk3.size; first | (simp only [World.size_drew'] at e1 e3 ⊢; omega) | (simp only [World.size_alloc, World.size_drew'] at e1 e3 ⊢; omega))
        · (have e1 := hk1.size; have e3 := hk3.size; first | (simp only [World.size_drew'] at e1 e3 ⊢; omega) | (simp only [World.size_alloc, World.size_drew'] at e1 e3 ⊢; omega))
        · (have e1 := hk1.size; have e3 := hk3.size; first | (simp only [World.size_drew'] at e1 e3 ⊢; omega) | (simp only [World.size_alloc, World.size_drew'] at e1 e3 ⊢; omega))
      refine AllReadyH.cons (o := { dst := some 6, op := Op.alloc 44, type := 0, pos := "ref.go:38", after := #[], guard := none }) rfl (fun K hK => ?_) (by exact AllReadyH.nil)
      go_simp
      refine hK.out _ _ (by (try dsimp only); (first | assumption | exact (Below.refl _ _).drew | exact (balloc (Below.refl _ _) _).drew | exact rstep (by assumption) (by assumption) | exact balloc (by assumption) _ | exact balloc (balloc (by assumption) _) _)) (fun hHeld => ?_)
      clear hK K
      simp only [List.setIfInBounds_toArray, List.set_cons_zero, List.set_cons_succ]
      refine wpAnyH_ready (rs := [3, 4]) (by as_aux_lemma => kernel_rfl) (by simp) ?_
      refine AllReadyH.cons (o := { dst := some 12, op := Op.call { callee := Callee.value (Operand.func 21), args := #[Operand.tmp 11], argTypes := #[24] }, type := 44, pos := "ref.go:38", after := #[{ on := 2, ground := Ground.data }, { on := 1, ground := Ground.chain }], guard := none }) rfl (fun K hK => ?_) ?_
      · go_simp
        (go_at_call 21; refine (rbytes_any _ _).mono ?_; rintro e wk3 ⟨rfl, hk3⟩)
        refine hK.out _ _ (by (try dsimp only); (first | assumption | exact (Below.refl _ _).drew | exact (balloc (Below.refl _ _) _).drew | exact rstep (by assumption) (by assumption) | exact balloc (by assumption) _ | exact balloc (balloc (by assumption) _) _)) (fun hHeld => ?_)
        clear hK K
        simp only [List.setIfInBounds_toArray, List.set_cons_zero, List.set_cons_succ]
        refine wpAnyH_ready (rs := [4]) (by as_aux_lemma => kernel_rfl) (by simp) ?_
        refine AllReadyH.cons (o := { dst := some 5, op := Op.alloc 44, type := 0, pos := "ref.go:38", after := #[], guard := none }) rfl (fun K hK => ?_) (by exact AllReadyH.nil)
        go_simp
        refine hK.out _ _ (by (try dsimp only); (first | assumption | exact (Below.refl _ _).drew | exact (balloc (Below.refl _ _) _).drew | exact rstep (by assumption) (by assumption) | exact balloc (by assumption) _ | exact balloc (balloc (by assumption) _) _)) (fun hHeld => ?_)
        clear hK K
        simp only [List.setIfInBounds_toArray, List.set_cons_zero, List.set_cons_succ]
        refine rest _ _ _ ⟨?_, ?_, ?_, ?_, ?_, hHeld⟩
        · (rw [byC_zero]; repeat (first | exact Blk.new _ _ _ | exact Blk.newS _ _ _ _ | with_reducible refine Blk.drewR ?_ | with_reducible refine Blk.alloc ?_ _ | refine Blk.keep ?_ hk3 | refine Blk.keep ?_ hk1))
        · (rw [byC_zero]; repeat (first | exact Blk.new _ _ _ | exact Blk.newS _ _ _ _ | with_reducible refine Blk.drewR ?_ | with_reducible refine Blk.alloc ?_ _ | refine Blk.keep ?_ hk3 | refine Blk.keep ?_ hk1))
        · (have e1 := hk1.size; have e3 := hk3.size; first | (simp only [World.size_drew'] at e1 e3 ⊢; omega) | (simp only [World.size_alloc, World.size_drew'] at e1 e3 ⊢; omega))
        · (have e1 := hk1.size; have e3 := hk3.size; first | (simp only [World.size_drew'] at e1 e3 ⊢; omega) | (simp only [World.size_alloc, World.size_drew'] at e1 e3 ⊢; omega))
        · (have e1 := hk1.size; have e3 := hk3.size; first | (simp only [World.size_drew'] at e1 e3 ⊢; omega) | (simp only [World.size_alloc, World.size_drew'] at e1 e3 ⊢; omega))
      refine AllReadyH.cons (o := { dst := some 5, op := Op.alloc 44, type := 0, pos := "ref.go:38", after := #[], guard := none }) rfl (fun K hK => ?_) (by exact AllReadyH.nil)
      go_simp
      refine hK.out _ _ (by (try dsimp only); (first | assumption | exact (Below.refl _ _).drew | exact (balloc (Below.refl _ _) _).drew | exact rstep (by assumption) (by assumption) | exact balloc (by assumption) _ | exact balloc (balloc (by assumption) _) _)) (fun hHeld => ?_)
      clear hK K
      simp only [List.setIfInBounds_toArray, List.set_cons_zero, List.set_cons_succ]
      refine wpAnyH_ready (rs := [3]) (by as_aux_lemma => kernel_rfl) (by simp) ?_
      refine AllReadyH.cons (o := { dst := some 12, op := Op.call { callee := Callee.value (Operand.func 21), args := #[Operand.tmp 11], argTypes := #[24] }, type := 44, pos := "ref.go:38", after := #[{ on := 2, ground := Ground.data }, { on := 1, ground := Ground.chain }], guard := none }) rfl (fun K hK => ?_) (by exact AllReadyH.nil)
      go_simp
      (go_at_call 21; refine (rbytes_any _ _).mono ?_; rintro e wk3 ⟨rfl, hk3⟩)
      refine hK.out _ _ (by (try dsimp only); (first | assumption | exact (Below.refl _ _).drew | exact (balloc (Below.refl _ _) _).drew | exact rstep (by assumption) (by assumption) | exact balloc (by assumption) _ | exact balloc (balloc (by assumption) _) _)) (fun hHeld => ?_)
      clear hK K
      simp only [List.setIfInBounds_toArray, List.set_cons_zero, List.set_cons_succ]
      refine rest _ _ _ ⟨?_, ?_, ?_, ?_, ?_, hHeld⟩
      · (rw [byC_zero]; repeat (first | exact Blk.new _ _ _ | exact Blk.newS _ _ _ _ | with_reducible refine Blk.drewR ?_ | with_reducible refine Blk.alloc ?_ _ | refine Blk.keep ?_ hk3 | refine Blk.keep ?_ hk1))
      · (rw [byC_zero]; repeat (first | exact Blk.new _ _ _ | exact Blk.newS _ _ _ _ | with_reducible refine Blk.drewR ?_ | with_reducible refine Blk.alloc ?_ _ | refine Blk.keep ?_ hk3 | refine Blk.keep ?_ hk1))
      · (have e1 := hk1.size; have e3 := hk3.size; first | (simp only [World.size_drew'] at e1 e3 ⊢; omega) | (simp only [World.size_alloc, World.size_drew'] at e1 e3 ⊢; omega))
      · (have e1 := hk1.size; have e3 := hk3.size; first | (simp only [World.size_drew'] at e1 e3 ⊢; omega) | (simp only [World.size_alloc, World.size_drew'] at e1 e3 ⊢; omega))
      · (have e1 := hk1.size; have e3 := hk3.size; first | (simp only [World.size_drew'] at e1 e3 ⊢; omega) | (simp only [World.size_alloc, World.size_drew'] at e1 e3 ⊢; omega))
    refine AllReadyH.cons (o := { dst := some 5, op := Op.alloc 44, type := 0, pos := "ref.go:38", after := #[], guard := none }) rfl (fun K hK => ?_) ?_
    · go_simp
      refine hK.out _ _ (by (try dsimp only); (first | assumption | exact (Below.refl _ _).drew | exact (balloc (Below.refl _ _) _).drew | exact rstep (by assumption) (by assumption) | exact balloc (by assumption) _ | exact balloc (balloc (by assumption) _) _)) (fun hHeld => ?_)
      clear hK K
      simp only [List.setIfInBounds_toArray, List.set_cons_zero, List.set_cons_succ]
      refine wpAnyH_ready (rs := [1, 5]) (by as_aux_lemma => kernel_rfl) (by simp) ?_
      refine AllReadyH.cons (o := { dst := some 10, op := Op.call { callee := Callee.value (Operand.func 21), args := #[Operand.tmp 9], argTypes := #[24] }, type := 44, pos := "ref.go:38", after := #[{ on := 0, ground := Ground.data }], guard := none }) rfl (fun K hK => ?_) ?_
      · go_simp
        (go_at_call 21; refine (rbytes_any _ _).mono ?_; rintro e wk1 ⟨rfl, hk1⟩)
        refine hK.out _ _ (by (try dsimp only); (first | assumption | exact (Below.refl _ _).drew | exact (balloc (Below.refl _ _) _).drew | exact rstep (by assumption) (by assumption) | exact balloc (by assumption) _ | exact balloc (balloc (by assumption) _) _)) (fun hHeld => ?_)
        clear hK K
        simp only [List.setIfInBounds_toArray, List.set_cons_zero, List.set_cons_succ]
        refine wpAnyH_ready (rs := [3, 5]) (by as_aux_lemma => kernel_rfl) (by simp) ?_
        refine AllReadyH.cons (o := { dst := some 12, op := Op.call { callee := Callee.value (Operand.func 21), args := #[Operand.tmp 11], argTypes := #[24] }, type := 44, pos := "ref.go:38", after := #[{ on := 2, ground := Ground.data }, { on := 1, ground := Ground.chain }], guard := none }) rfl (fun K hK => ?_) ?_
        · go_simp
          (go_at_call 21; refine (rbytes_any _ _).mono ?_; rintro e wk3 ⟨rfl, hk3⟩)
          refine hK.out _ _ (by (try dsimp only); (first | assumption | exact (Below.refl _ _).drew | exact (balloc (Below.refl _ _) _).drew | exact rstep (by assumption) (by assumption) | exact balloc (by assumption) _ | exact balloc (balloc (by assumption) _) _)) (fun hHeld => ?_)
          clear hK K
          simp only [List.setIfInBounds_toArray, List.set_cons_zero, List.set_cons_succ]
          refine wpAnyH_ready (rs := [5]) (by as_aux_lemma => kernel_rfl) (by simp) ?_
          refine AllReadyH.cons (o := { dst := some 6, op := Op.alloc 44, type := 0, pos := "ref.go:38", after := #[], guard := none }) rfl (fun K hK => ?_) (by exact AllReadyH.nil)
          go_simp
          refine hK.out _ _ (by (try dsimp only); (first | assumption | exact (Below.refl _ _).drew | exact (balloc (Below.refl _ _) _).drew | exact rstep (by assumption) (by assumption) | exact balloc (by assumption) _ | exact balloc (balloc (by assumption) _) _)) (fun hHeld => ?_)
          clear hK K
          simp only [List.setIfInBounds_toArray, List.set_cons_zero, List.set_cons_succ]
          refine rest _ _ _ ⟨?_, ?_, ?_, ?_, ?_, hHeld⟩
          · (rw [byC_zero]; repeat (first | exact Blk.new _ _ _ | exact Blk.newS _ _ _ _ | with_reducible refine Blk.drewR ?_ | with_reducible refine Blk.alloc ?_ _ | refine Blk.keep ?_ hk3 | refine Blk.keep ?_ hk1))
          · (rw [byC_zero]; repeat (first | exact Blk.new _ _ _ | exact Blk.newS _ _ _ _ | with_reducible refine Blk.drewR ?_ | with_reducible refine Blk.alloc ?_ _ | refine Blk.keep ?_ hk3 | refine Blk.keep ?_ hk1))
          · (have e1 := hk1.size; have e3 := hk3.size; first | (simp only [World.size_drew'] at e1 e3 ⊢; omega) | (simp only [World.size_alloc, World.size_drew'] at e1 e3 ⊢; omega))
          · (have e1 := hk1.size; have e3 := hk3.size; first | (simp only [World.size_drew'] at e1 e3 ⊢; omega) | (simp only [World.size_alloc, World.size_drew'] at e1 e3 ⊢; omega))
          · (have e1 := hk1.size; have e3 := hk3.size; first | (simp only [World.size_drew'] at e1 e3 ⊢; omega) | (simp only [World.size_alloc, World.size_drew'] at e1 e3 ⊢; omega))
        refine AllReadyH.cons (o := { dst := some 6, op := Op.alloc 44, type := 0, pos := "ref.go:38", after := #[], guard := none }) rfl (fun K hK => ?_) (by exact AllReadyH.nil)
        go_simp
        refine hK.out _ _ (by (try dsimp only); (first | assumption | exact (Below.refl _ _).drew | exact (balloc (Below.refl _ _) _).drew | exact rstep (by assumption) (by assumption) | exact balloc (by assumption) _ | exact balloc (balloc (by assumption) _) _)) (fun hHeld => ?_)
        clear hK K
        simp only [List.setIfInBounds_toArray, List.set_cons_zero, List.set_cons_succ]
        refine wpAnyH_ready (rs := [3]) (by as_aux_lemma => kernel_rfl) (by simp) ?_
        refine AllReadyH.cons (o := { dst := some 12, op := Op.call { callee := Callee.value (Operand.func 21), args := #[Operand.tmp 11], argTypes := #[24] }, type := 44, pos := "ref.go:38", after := #[{ on := 2, ground := Ground.data }, { on := 1, ground := Ground.chain }], guard := none }) rfl (fun K hK => ?_) (by exact AllReadyH.nil)
        go_simp
        (go_at_call 21; refine (rbytes_any _ _).mono ?_; rintro e wk3 ⟨rfl, hk3⟩)
        refine hK.out _ _ (by (try dsimp only); (first | assumption | exact (Below.refl _ _).drew | exact (balloc (Below.refl _ _) _).drew | exact rstep (by assumption) (by assumption) | exact balloc (by assumption) _ | exact balloc (balloc (by assumption) _) _)) (fun hHeld => ?_)
        clear hK K
        simp only [List.setIfInBounds_toArray, List.set_cons_zero, List.set_cons_succ]
        refine rest _ _ _ ⟨?_, ?_, ?_, ?_, ?_, hHeld⟩
        · (rw [byC_zero]; repeat (first | exact Blk.new _ _ _ | exact Blk.newS _ _ _ _ | with_reducible refine Blk.drewR ?_ | with_reducible refine Blk.alloc ?_ _ | refine Blk.keep ?_ hk3 | refine Blk.keep ?_ hk1))
        · (rw [byC_zero]; repeat (first | exact Blk.new _ _ _ | exact Blk.newS _ _ _ _ | with_reducible refine Blk.drewR ?_ | with_reducible refine Blk.alloc ?_ _ | refine Blk.keep ?_ hk3 | refine Blk.keep ?_ hk1))
        · (have e1 := hk1.size; have e3 := hk3.size; first | (simp only [World.size_drew'] at e1 e3 ⊢; omega) | (simp only [World.size_alloc, World.size_drew'] at e1 e3 ⊢; omega))
        · (have e1 := hk1.size; have e3 := hk3.size; first | (simp only [World.size_drew'] at e1 e3 ⊢; omega) | (simp only [World.size_alloc, World.size_drew'] at e1 e3 ⊢; omega))
        · (have e1 := hk1.size; have e3 := hk3.size; first | (simp only [World.size_drew'] at e1 e3 ⊢; omega) | (simp only [World.size_alloc, World.size_drew'] at e1 e3 ⊢; omega))
      refine AllReadyH.cons (o := { dst := some 6, op := Op.alloc 44, type := 0, pos := "ref.go:38", after := #[], guard := none }) rfl (fun K hK => ?_) (by exact AllReadyH.nil)
      go_simp
      refine hK.out _ _ (by (try dsimp only); (first | assumption | exact (Below.refl _ _).drew | exact (balloc (Below.refl _ _) _).drew | exact rstep (by assumption) (by assumption) | exact balloc (by assumption) _ | exact balloc (balloc (by assumption) _) _)) (fun hHeld => ?_)
      clear hK K
      simp only [List.setIfInBounds_toArray, List.set_cons_zero, List.set_cons_succ]
      refine wpAnyH_ready (rs := [1]) (by as_aux_lemma => kernel_rfl) (by simp) ?_
      refine AllReadyH.cons (o := { dst := some 10, op := Op.call { callee := Callee.value (Operand.func 21), args := #[Operand.tmp 9], argTypes := #[24] }, type := 44, pos := "ref.go:38", after := #[{ on := 0, ground := Ground.data }], guard := none }) rfl (fun K hK => ?_) (by exact AllReadyH.nil)
      go_simp
      (go_at_call 21; refine (rbytes_any _ _).mono ?_; rintro e wk1 ⟨rfl, hk1⟩)
      refine hK.out _ _ (by (try dsimp only); (first | assumption | exact (Below.refl _ _).drew | exact (balloc (Below.refl _ _) _).drew | exact rstep (by assumption) (by assumption) | exact balloc (by assumption) _ | exact balloc (balloc (by assumption) _) _)) (fun hHeld => ?_)
      clear hK K
      simp only [List.setIfInBounds_toArray, List.set_cons_zero, List.set_cons_succ]
      refine wpAnyH_ready (rs := [3]) (by as_aux_lemma => kernel_rfl) (by simp) ?_
      refine AllReadyH.cons (o := { dst := some 12, op := Op.call { callee := Callee.value (Operand.func 21), args := #[Operand.tmp 11], argTypes := #[24] }, type := 44, pos := "ref.go:38", after := #[{ on := 2, ground := Ground.data }, { on := 1, ground := Ground.chain }], guard := none }) rfl (fun K hK => ?_) (by exact AllReadyH.nil)
      go_simp
      (go_at_call 21; refine (rbytes_any _ _).mono ?_; rintro e wk3 ⟨rfl, hk3⟩)
      refine hK.out _ _ (by (try dsimp only); (first | assumption | exact (Below.refl _ _).drew | exact (balloc (Below.refl _ _) _).drew | exact rstep (by assumption) (by assumption) | exact balloc (by assumption) _ | exact balloc (balloc (by assumption) _) _)) (fun hHeld => ?_)
      clear hK K
      simp only [List.setIfInBounds_toArray, List.set_cons_zero, List.set_cons_succ]
      refine rest _ _ _ ⟨?_, ?_, ?_, ?_, ?_, hHeld⟩
      · (rw [byC_zero]; repeat (first | exact Blk.new _ _ _ | exact Blk.newS _ _ _ _ | with_reducible refine Blk.drewR ?_ | with_reducible refine Blk.alloc ?_ _ | refine Blk.keep ?_ hk3 | refine Blk.keep ?_ hk1))
      · (rw [byC_zero]; repeat (first | exact Blk.new _ _ _ | exact Blk.newS _ _ _ _ | with_reducible refine Blk.drewR ?_ | with_reducible refine Blk.alloc ?_ _ | refine Blk.keep ?_ hk3 | refine Blk.keep ?_ hk1))
      · (have e1 := hk1.size; have e3 := hk3.size; first | (simp only [World.size_drew'] at e1 e3 ⊢; omega) | (simp only [World.size_alloc, World.size_drew'] at e1 e3 ⊢; omega))
      · (have e1 := hk1.size; have e3 := hk3.size; first | (simp only [World.size_drew'] at e1 e3 ⊢; omega) | (simp only [World.size_alloc, World.size_drew'] at e1 e3 ⊢; omega))
      · (have e1 := hk1.size; have e3 := hk3.size; first | (simp only [World.size_drew'] at e1 e3 ⊢; omega) | (simp only [World.size_alloc, World.size_drew'] at e1 e3 ⊢; omega))
    refine AllReadyH.cons (o := { dst := some 6, op := Op.alloc 44, type := 0, pos := "ref.go:38", after := #[], guard := none }) rfl (fun K hK => ?_) (by exact AllReadyH.nil)
    go_simp
    refine hK.out _ _ (by (try dsimp only); (first | assumption | exact (Below.refl _ _).drew | exact (balloc (Below.refl _ _) _).drew | exact rstep (by assumption) (by assumption) | exact balloc (by assumption) _ | exact balloc (balloc (by assumption) _) _)) (fun hHeld => ?_)
    clear hK K
    simp only [List.setIfInBounds_toArray, List.set_cons_zero, List.set_cons_succ]
    refine wpAnyH_ready (rs := [1, 4]) (by as_aux_lemma => kernel_rfl) (by simp) ?_
    refine AllReadyH.cons (o := { dst := some 10, op := Op.call { callee := Callee.value (Operand.func 21), args := #[Operand.tmp 9], argTypes := #[24] }, type := 44, pos := "ref.go:38", after := #[{ on := 0, ground := Ground.data }], guard := none }) rfl (fun K hK => ?_) ?_
    · go_simp
      (go_at_call 21; refine (rbytes_any _ _).mono ?_; rintro e wk1 ⟨rfl, hk1⟩)
      refine hK.out _ _ (by (try dsimp only); (first | assumption | exact (Below.refl _ _).drew | exact (balloc (Below.refl _ _) _).drew | exact rstep (by assumption) (by assumption) | exact balloc (by assumption) _ | exact balloc (balloc (by assumption) _) _)) (fun hHeld => ?_)
      clear hK K
      simp only [List.setIfInBounds_toArray, List.set_cons_zero, List.set_cons_succ]
      refine wpAnyH_ready (rs := [3, 4]) (by as_aux_lemma => kernel_rfl) (by simp) ?_
      refine AllReadyH.cons (o := { dst := some 12, op := Op.call { callee := Callee.value (Operand.func 21), args := #[Operand.tmp 11], argTypes := #[24] }, type := 44, pos := "ref.go:38", after := #[{ on := 2, ground := Ground.data }, { on := 1, ground := Ground.chain }], guard := none }) rfl (fun K hK => ?_) ?_
      · go_simp
        (go_at_call 21; refine (rbytes_any _ _).mono ?_; rintro e wk3 ⟨rfl, hk3⟩)
        refine hK.out _ _ (by (try dsimp only); (first | assumption | exact (Below.refl _ _).drew | exact (balloc (Below.refl _ _) _).drew | exact rstep (by assumption) (by assumption) | exact balloc (by assumption) _ | exact balloc (balloc (by assumption) _) _)) (fun hHeld => ?_)
        clear hK K
        simp only [List.setIfInBounds_toArray, List.set_cons_zero, List.set_cons_succ]
        refine wpAnyH_ready (rs := [4]) (by as_aux_lemma => kernel_rfl) (by simp) ?_
        refine AllReadyH.cons (o := { dst := some 5, op := Op.alloc 44, type := 0, pos := "ref.go:38", after := #[], guard := none }) rfl (fun K hK => ?_) (by exact AllReadyH.nil)
        go_simp
        refine hK.out _ _ (by (try dsimp only); (first | assumption | exact (Below.refl _ _).drew | exact (balloc (Below.refl _ _) _).drew | exact rstep (by assumption) (by assumption) | exact balloc (by assumption) _ | exact balloc (balloc (by assumption) _) _)) (fun hHeld => ?_)
        clear hK K
        simp only [List.setIfInBounds_toArray, List.set_cons_zero, List.set_cons_succ]
        refine rest _ _ _ ⟨?_, ?_, ?_, ?_, ?_, hHeld⟩
        · (rw [byC_zero]; repeat (first | exact Blk.new _ _ _ | exact Blk.newS _ _ _ _ | with_reducible refine Blk.drewR ?_ | with_reducible refine Blk.alloc ?_ _ | refine Blk.keep ?_ hk3 | refine Blk.keep ?_ hk1))
        · (rw [byC_zero]; repeat (first | exact Blk.new _ _ _ | exact Blk.newS _ _ _ _ | with_reducible refine Blk.drewR ?_ | with_reducible refine Blk.alloc ?_ _ | refine Blk.keep ?_ hk3 | refine Blk.keep ?_ hk1))
        · (have e1 := hk1.size; have e3 := hk3.size; first | (simp only [World.size_drew'] at e1 e3 ⊢; omega) | (simp only [World.size_alloc, World.size_drew'] at e1 e3 ⊢; omega))
        · (have e1 := hk1.size; have e3 := hk3.size; first | (simp only [World.size_drew'] at e1 e3 ⊢; omega) | (simp only [World.size_alloc, World.size_drew'] at e1 e3 ⊢; omega))
        · (have e1 := hk1.size; have e3 := hk3.size; first | (simp only [World.size_drew'] at e1 e3 ⊢; omega) | (simp only [World.size_alloc, World.size_drew'] at e1 e3 ⊢; omega))
      refine AllReadyH.cons (o := { dst := some 5, op := Op.alloc 44, type := 0, pos := "ref.go:38", after := #[], guard := none }) rfl (fun K hK => ?_) (by exact AllReadyH.nil)
      go_simp
      refine hK.out _ _ (by (try dsimp only); (first | assumption | exact (Below.refl _ _).drew | exact (balloc (Below.refl _ _) _).drew | exact rstep (by assumption) (by assumption) | exact balloc (by assumption) _ | exact balloc (balloc (by assumption) _) _)) (fun hHeld => ?_)
      clear hK K
      simp only [List.setIfInBounds_toArray, List.set_cons_zero, List.set_cons_succ]
      refine wpAnyH_ready (rs := [3]) (by as_aux_lemma => kernel_rfl) (by simp) ?_
      refine AllReadyH.cons (o := { dst := some 12, op := Op.call { callee := Callee.value (Operand.func 21), args := #[Operand.tmp 11], argTypes := #[24] }, type := 44, pos := "ref.go:38", after := #[{ on := 2, ground := Ground.data }, { on := 1, ground := Ground.chain }], guard := none }) rfl (fun K hK => ?_) (by exact AllReadyH.nil)
      go_simp
      (go_at_call 21; refine (rbytes_any _ _).mono ?_; rintro e wk3 ⟨rfl, hk3⟩)
      refine hK.out _ _ (by (try dsimp only); (first | assumption | exact (Below.refl _ _).drew | exact (balloc (Below.refl _ _) _).drew | exact rstep (by assumption) (by assumption) | exact balloc (by assumption) _ | exact balloc (balloc (by assumption) _) _)) (fun hHeld => ?_)
      clear hK K
      simp only [List.setIfInBounds_toArray, List.set_cons_zero, List.set_cons_succ]
      refine rest _ _ _ ⟨?_, ?_, ?_, ?_, ?_, hHeld⟩
      · (rw [byC_zero]; repeat (first | exact Blk.new _ _ _ | exact Blk.newS _ _ _ _ | with_reducible refine Blk.drewR ?_ | with_reducible refine Blk.alloc ?_ _ | refine Blk.keep ?_ hk3 | refine Blk.keep ?_ hk1))
      · (rw [byC_zero]; repeat (first | exact Blk.new _ _ _ | exact Blk.newS _ _ _ _ | with_reducible refine Blk.drewR ?_ | with_reducible refine Blk.alloc ?_ _ | refine Blk.keep ?_ hk3 | refine Blk.keep ?_ hk1))
      · (have e1 := hk1.size; have e3 := hk3.size; first | (simp only [World.size_drew'] at e1 e3 ⊢; omega) | (simp only [World.size_alloc, World.size_drew'] at e1 e3 ⊢; omega))
      · (have e1 := hk1.size; have e3 := hk3.size; first | (simp only [World.size_drew'] at e1 e3 ⊢; omega) | (simp only [World.size_alloc, World.size_drew'] at e1 e3 ⊢; omega))
      · (have e1 := hk1.size; have e3 := hk3.size; first | (simp only [World.size_drew'] at e1 e3 ⊢; omega) | (simp only [World.size_alloc, World.size_drew'] at e1 e3 ⊢; omega))
    refine AllReadyH.cons (o := { dst := some 5, op := Op.alloc 44, type := 0, pos := "ref.go:38", after := #[], guard := none }) rfl (fun K hK => ?_) (by exact AllReadyH.nil)
    go_simp
    refine hK.out _ _ (by (try dsimp only); (first | assumption | exact (Below.refl _ _).drew | exact (balloc (Below.refl _ _) _).drew | exact rstep (by assumption) (by assumption) | exact balloc (by assumption) _ | exact balloc (balloc (by assumption) _) _)) (fun hHeld => ?_)
    clear hK K
    simp only [List.setIfInBounds_toArray, List.set_cons_zero, List.set_cons_succ]
    refine wpAnyH_ready (rs := [1]) (by as_aux_lemma => kernel_rfl) (by simp) ?_
    refine AllReadyH.cons (o := { dst := some 10, op := Op.call { callee := Callee.value (Operand.func 21), args := #[Operand.tmp 9], argTypes := #[24] }, type := 44, pos := "ref.go:38", after := #[{ on := 0, ground := Ground.data }], guard := none }) rfl (fun K hK => ?_) (by exact AllReadyH.nil)
    go_simp
    (go_at_call 21; refine (rbytes_any _ _).mono ?_; rintro e wk1 ⟨rfl, hk1⟩)
    refine hK.out _ _ (by (try dsimp only); (first | assumption | exact (Below.refl _ _).drew | exact (balloc (Below.refl _ _) _).drew | exact rstep (by assumption) (by assumption) | exact balloc (by assumption) _ | exact balloc (balloc (by assumption) _) _)) (fun hHeld => ?_)
    clear hK K
    simp only [List.setIfInBounds_toArray, List.set_cons_zero, List.set_cons_succ]
    refine wpAnyH_ready (rs := [3]) (by as_aux_lemma => kernel_rfl) (by simp) ?_
    refine AllReadyH.cons (o := { dst := some 12, op := Op.call { callee := Callee.value (Operand.func 21), args := #[Operand.tmp 11], argTypes := #[24] }, type := 44, pos := "ref.go:38", after := #[{ on := 2, ground := Ground.data }, { on := 1, ground := Ground.chain }], guard := none }) rfl (fun K hK => ?_) (by exact AllReadyH.nil)
    go_simp
    (go_at_call 21; refine (rbytes_any _ _).mono ?_; rintro e wk3 ⟨rfl, hk3⟩)
    refine hK.out _ _ (by (try dsimp only); (first | assumption | exact (Below.refl _ _).drew | exact (balloc (Below.refl _ _) _).drew | exact rstep (by assumption) (by assumption) | exact balloc (by assumption) _ | exact balloc (balloc (by assumption) _) _)) (fun hHeld => ?_)
    clear hK K
    simp only [List.setIfInBounds_toArray, List.set_cons_zero, List.set_cons_succ]
    refine rest _ _ _ ⟨?_, ?_, ?_, ?_, ?_, hHeld⟩
    · (rw [byC_zero]; repeat (first | exact Blk.new _ _ _ | exact Blk.newS _ _ _ _ | with_reducible refine Blk.drewR ?_ | with_reducible refine Blk.alloc ?_ _ | refine Blk.keep ?_ hk3 | refine Blk.keep ?_ hk1))
    · (rw [byC_zero]; repeat (first | exact Blk.new _ _ _ | exact Blk.newS _ _ _ _ | with_reducible refine Blk.drewR ?_ | with_reducible refine Blk.alloc ?_ _ | refine Blk.keep ?_ hk3 | refine Blk.keep ?_ hk1))
    · (have e1 := hk1.size; have e3 := hk3.size; first | (simp only [World.size_drew'] at e1 e3 ⊢; omega) | (simp only [World.size_alloc, World.size_drew'] at e1 e3 ⊢; omega))
    · (have e1 := hk1.size; have e3 := hk3.size; first | (simp only [World.size_drew'] at e1 e3 ⊢; omega) | (simp only [World.size_alloc, World.size_drew'] at e1 e3 ⊢; omega))
    · (have e1 := hk1.size; have e3 := hk3.size; first | (simp only [World.size_drew'] at e1 e3 ⊢; omega) | (simp only [World.size_alloc, World.size_drew'] at e1 e3 ⊢; omega))
  case hrest =>
    intro X Y wz ⟨z1, z2, z3, z4, z5, z6⟩
    refine wpAnyH_ready (rs := [6]) (by as_aux_lemma => kernel_rfl) (by simp) ?_
    refine AllReadyH.cons (o := { dst := none, op := Op.store 44 (Operand.tmp 5) (Operand.tmp 10), type := 0, pos := "ref.go:38", after := #[{ on := 4, ground := Ground.data }, { on := 1, ground := Ground.data }, { on := 3, ground := Ground.chain }, { on := 0, ground := Ground.phase }, { on := 1, ground := Ground.phase }, { on := 2, ground := Ground.textOnly Departure.lateStores }, { on := 3, ground := Ground.textOnly Departure.lateStoresUnsure }, { on := 4, ground := Ground.phase }, { on := 5, ground := Ground.phase }], guard := none }) rfl (fun K hK => ?_) (by exact AllReadyH.nil)
    rw [if_pos (by rfl)]
    refine wp_store_mid 44 (.tmp 5) (.tmp 10) rfl X 0 (byC a 32) rfl rfl (z1.there _ (by rw [byC_size, byC_size]; exact Nat.le_refl _)) (HI _).out (byC_one a 32) (hK.out _ _ (below_setCells' z4 _ 0 wz z6) (fun hHeld => ?_))
    have z7 := blk_setCells z1 (byC a 32) (by rw [byC_size, byC_size]) (byC_one a 32)
    have z8 := blk_setCells_far z2 X 0 (byC a 32).toList z3.symm
    clear z1 z2 z6
    generalize wz.setCells X 0 (byC a 32).toList = wy at z7 z8 hHeld ⊢
    clear hK K
    simp only [Act.put, List.setIfInBounds_toArray, List.set_cons_zero, List.set_cons_succ]
    refine wpAnyH_ready (rs := [7]) (by as_aux_lemma => kernel_rfl) (by simp) ?_
    refine AllReadyH.cons (o := { dst := none, op := Op.store 44 (Operand.tmp 6) (Operand.tmp 12), type := 0, pos := "ref.go:38", after := #[{ on := 5, ground := Ground.data }, { on := 3, ground := Ground.data }, { on := 6, ground := Ground.chain }, { on := 0, ground := Ground.phase }, { on := 1, ground := Ground.phase }, { on := 2, ground := Ground.phase }, { on := 3, ground := Ground.phase }, { on := 4, ground := Ground.phase }, { on := 5, ground := Ground.phase }, { on := 6, ground := Ground.phase }], guard := none }) rfl (fun K hK => ?_) (by exact AllReadyH.nil)
    rw [if_pos (by rfl)]
    refine wp_store_mid 44 (.tmp 6) (.tmp 12) rfl Y 0 (byC b 32) rfl rfl (z8.there _ (by rw [byC_size, byC_size]; exact Nat.le_refl _)) (HI _).out (byC_one b 32) (hK.out _ _ (below_setCells' z5 _ 0 wy hHeld) (fun hHeld => ?_))
    have z9 := blk_setCells z8 (byC b 32) (by rw [byC_size, byC_size]) (byC_one b 32)
    have z10 := blk_setCells_far z7 Y 0 (byC b 32).toList z3
    clear z7 z8
    generalize wy.setCells Y 0 (byC b 32).toList = wx at z9 z10 hHeld ⊢
    clear hK K
    simp only [Act.put, List.setIfInBounds_toArray, List.set_cons_zero, List.set_cons_succ]
    refine wpAnyH_done (by as_aux_lemma => kernel_rfl) ?_ _
    have hR := HR.out.keep hHeld
    have hB := bstep HW.out hHeld
    have X1 : w.heap.size + 1 + 1 ≠ X := by omega
    have Y1 : w.heap.size + 1 + 1 ≠ Y := by omega
    have hX : w.heap.size ≤ X := by omega
    clear hHeld cA0 cA1 cA2 cA3 cB0 cB1 cB2 cB3 z4 z5 hRl HR HW
    go_wp2
    go_loopw [7, 8] (fun c i wr => ∃ k : Nat, k ≤ 32 ∧ c = .int .i64 (cyB a b k) ∧ i = .int .i64 (31 - (k : Int)) ∧ Blk wr X 44 (adC a b k) ∧ Blk wr Y 44 (byC b 32) ∧ Blk wr (w.heap.size + 1 + 1) 24 (Wc 0) ∧ Below w.heap.size w wr) (fun _ i _ => (intOf i + 1).toNat)
    case atStart => exact ⟨0, by omega, by rw [cyB_zero]; rfl, rfl, by rw [adC_zero]; exact z10, z9, hR, hB⟩
    case round =>
      obtain ⟨k, hk, rfl, rfl, hx, hy, hr, hB⟩ := hrel
      by_cases hlt : k < 32
      · have hd : wr.cell? ⟨X, 31 - k, none⟩ = some (.int .u8 ((byA a k : Nat) : Int)) := (cell_of_row wr _ _ _ _ _ hx).trans (by rw [adC_get _ _ _ _ (by omega), if_neg (by omega), show 31 - (31 - k) = k by omega])
        have he : wr.cell? ⟨Y, 31 - k, none⟩ = some (.int .u8 ((byA b k : Nat) : Int)) := (cell_of_row wr _ _ _ _ _ hy).trans (by rw [byC_get _ _ _ (by omega), if_pos (by omega), show 31 - (31 - k) = k by omega])
        have hf := frozen_of_row wr _ (31 - k) _ _ hx
        have HX := Lib.hid hx
        have HY := Lib.hid hy
        have HR := Lib.hid hr
        clear hx hy hr z9 z10
        have b1 := byA_lt a k
        have b2 := byA_lt b k
        have b3 := cyB_le a b k
        have g1 : (0 : Int) ≤ 31 - (k : Int) := by omega
        have g2 : 31 - (k : Int) < 32 := by omega
        have g3 : (31 - (k : Int)).toNat = 31 - k := by omega
        have g4 : (k : Int) ≤ 31 := by omega
        have g5 : IntKind.i64.wrap ((byA a k : Nat) : Int) = ((byA a k : Nat) : Int) := IntWalk.i64_in _ (by omega)
        have g6 : IntKind.i64.wrap ((byA b k : Nat) : Int) = ((byA b k : Nat) : Int) := IntWalk.i64_in _ (by omega)
        have g7 : IntKind.i64.wrap ((cyB a b k : Nat) + (byA a k : Nat) : Int) = ((cyB a b k : Nat) + (byA a k : Nat) : Int) := IntWalk.i64_in _ (by omega)
        have g8 : IntKind.i64.wrap ((cyB a b k : Nat) + (byA a k : Nat) + (byA b k : Nat) : Int) = ((cyB a b k : Nat) + (byA a k : Nat) + (byA b k : Nat) : Int) := IntWalk.i64_in _ (by omega)
        go_wp2_with fail
        go_region_law (fail)
        all_goals go_wp2
        all_goals
          have hv : ((cyB a b k : Nat) + (byA a k : Nat) + (byA b k : Nat) : Int) % 256 = ((byA (a + b) k : Nat) : Int) := by rw [← byA_add]; omega
          have hq : ((cyB a b k : Nat) + (byA a k : Nat) + (byA b k : Nat) : Int) / 256 = ((cyB a b (k + 1) : Nat) : Int) := by rw [← cyB_succ]; omega
          rw [hv, hq]
          have G := grown_set' (grown_refl wr X) (31 - k) (.int .u8 ((byA (a + b) k : Nat) : Int))
          have h := heap_setCell_same wr X (31 - k) _ _ (.int .u8 ((byA (a + b) k : Nat) : Int)) HX.out
          rw [adC_set a b k hlt] at h
          have hY2 := HY.out.kept G (by simp; omega)
          have hR2 := HR.out.kept G (by simp; omega)
          exact ⟨⟨k + 1, by omega, rfl, by congr 1; omega, h, hY2, hR2, (hB.setCell (p := ⟨X, 31 - k, none⟩) (by simp; omega) _).drew⟩, by simp [intOf]; omega⟩
      · obtain rfl : k = 32 := by omega
        rw [adC_all] at hx
        have HX := Lib.hid hx
        have HR := Lib.hid hr
        clear hx hy hr z9 z10
        have hu : Tryd.prog.underlying 44 = some (.array 32 5) := by kernel_rfl
        have HU := Lib.hid hu
        clear hu
        go_upto_region 9 with (fail)
        refine wp_region_lit (wpList_load_mid rfl 44 (.tmp 5) rfl X 0 rfl (byC (a + b) 32).toList _ HX.out.rangeAt HU.out rfl (HI _).out ?_)
        go_wp2_with (go_at_call 25; refine (rfrom_any (a + b) _).mono ?_; rintro e wk ⟨rfl, hk⟩; have hr2 := HR.out.keep hk; have hB2 := bstep hB hk; have r0 := (cell_of_row wk _ 0 _ _ _ hr2).trans (wc_get 0 0 (by omega)); have r1 := (cell_of_row wk _ 1 _ _ _ hr2).trans (wc_get 0 1 (by omega)); have r2 := (cell_of_row wk _ 2 _ _ _ hr2).trans (wc_get 0 2 (by omega)); have r3 := (cell_of_row wk _ 3 _ _ _ hr2).trans (wc_get 0 3 (by omega)); have f0 := frozen_of_row wk _ 0 _ _ hr2; have f1 := frozen_of_row wk _ 1 _ _ hr2; have f2 := frozen_of_row wk _ 2 _ _ hr2; have f3 := frozen_of_row wk _ 3 _ _ hr2; clear hr2)
        exact bodyPost_ret (v := W (a + b)) (by simp [results, Tryd.results17, go_sem, r0, r1, r2, r3]) rfl ⟨rfl, (((hB2.setCell (p := ⟨w.heap.size + 1 + 1, 0, none⟩) (by simp; omega) _).setCell (p := ⟨w.heap.size + 1 + 1, 1, none⟩) (by simp; omega) _).setCell (p := ⟨w.heap.size + 1 + 1, 2, none⟩) (by simp; omega) _).setCell (p := ⟨w.heap.size + 1 + 1, 3, none⟩) (by simp; omega) _⟩

end Go.Proofs.YtidpekcegocjfaaDoor

/- The reference of layer word: Sub, Order, Small, by contracts. -/
namespace Go.Proofs.YtidpekcegocjfaaDoor
open Go.RowKit
attribute [local go_sem] ix0 ix1 ix2 ix3
theorem rstepB {B : Nat} {W W1 w1 : World} (hB : B ≤ W.heap.size) (k : Below W1.heap.size W1 w1) (h : Below B W W1) : Below B W w1 := h.trans (k.mono (Nat.le_trans hB h.size))
theorem wc_one (n : Nat) : (Wc n).all (·.oneCell') = true := by
  rw [Array.all_eq_true_iff_forall_mem]
  intro v hv
  unfold Wc at hv
  simp only [List.mem_toArray, List.mem_cons, List.not_mem_nil, or_false] at hv
  rcases hv with rfl | rfl | rfl | rfl <;> rfl
theorem info_word : (Tryd.prog.info? 24).map (·.size) = some 4 := by kernel_rfl

set_option maxRecDepth 100000 in
set_option maxHeartbeats 1000000 in
theorem rsub_any (a b : Nat) (w : World) :
    Calls Tryd.prog 22 #[W a, W b] w fun e w' => e = .returned (W (sb a b)) ∧ Below w.heap.size w w' := by
  have HI := Lib.hid info_word
  go_enter Tryd.func22, Tryd.ntmps22
  go_wp2_with fail
  have A : Blk (((w.alloc (.cells (Wc a) 24)).alloc (.cells (Wc b) 24)).alloc (.cells (Wc 0) 24)) w.heap.size 24 (Wc a) := ((Blk.new _ _ _).alloc _).alloc _
  have B : Blk (((w.alloc (.cells (Wc a) 24)).alloc (.cells (Wc b) 24)).alloc (.cells (Wc 0) 24)) (w.heap.size + 1) 24 (Wc b) := (Blk.newS w _ _ _).alloc _
  have R : Blk (((w.alloc (.cells (Wc a) 24)).alloc (.cells (Wc b) 24)).alloc (.cells (Wc 0) 24)) (w.heap.size + 1 + 1) 24 (Wc 0) := by
    have h := Blk.newS (w.alloc (.cells (Wc a) 24)) (.cells (Wc b) 24) 24 (Wc 0)
    rwa [World.size_alloc] at h
  have hW : Below w.heap.size w (((w.alloc (.cells (Wc a) 24)).alloc (.cells (Wc b) 24)).alloc (.cells (Wc 0) 24)) := balloc (balloc (balloc (Below.refl _ _) _) _) _
  have e0 : Wc 0 = #[.int .u64 0, .int .u64 0, .int .u64 0, .int .u64 0] := by unfold Wc; simp only [lb_zero]
  obtain ⟨W0, hW0⟩ : ∃ W0, ((w.alloc (.cells (Wc a) 24)).alloc (.cells (Wc b) 24)).alloc (.cells (Wc 0) 24) = W0 := ⟨_, rfl⟩
  rw [hW0] at A B R hW
  rw [e0] at hW0
  rw [hW0]
  clear hW0 e0
  have hle : w.heap.size + 1 + 1 ≤ W0.heap.size := Nat.le_of_lt R.lt
  have cA0 : ∀ w', Below (w.heap.size + 1 + 1) W0 w' → w'.cell? ⟨w.heap.size, 0, none⟩ = some (.int .u64 (lb a 0)) := fun w' h => (h.cell (p := ⟨w.heap.size, 0, none⟩) (by show w.heap.size < w.heap.size + 1 + 1; omega)).trans (cell_of_row _ _ 0 _ _ _ A)
  have cA1 : ∀ w', Below (w.heap.size + 1 + 1) W0 w' → w'.cell? ⟨w.heap.size, 1, none⟩ = some (.int .u64 (lb a 1)) := fun w' h => (h.cell (p := ⟨w.heap.size, 1, none⟩) (by show w.heap.size < w.heap.size + 1 + 1; omega)).trans (cell_of_row _ _ 1 _ _ _ A)
  have cA2 : ∀ w', Below (w.heap.size + 1 + 1) W0 w' → w'.cell? ⟨w.heap.size, 2, none⟩ = some (.int .u64 (lb a 2)) := fun w' h => (h.cell (p := ⟨w.heap.size, 2, none⟩) (by show w.heap.size < w.heap.size + 1 + 1; omega)).trans (cell_of_row _ _ 2 _ _ _ A)
  have cA3 : ∀ w', Below (w.heap.size + 1 + 1) W0 w' → w'.cell? ⟨w.heap.size, 3, none⟩ = some (.int .u64 (lb a 3)) := fun w' h => (h.cell (p := ⟨w.heap.size, 3, none⟩) (by show w.heap.size < w.heap.size + 1 + 1; omega)).trans (cell_of_row _ _ 3 _ _ _ A)
  have cB0 : ∀ w', Below (w.heap.size + 1 + 1) W0 w' → w'.cell? ⟨w.heap.size + 1, 0, none⟩ = some (.int .u64 (lb b 0)) := fun w' h => (h.cell (p := ⟨w.heap.size + 1, 0, none⟩) (by show w.heap.size + 1 < w.heap.size + 1 + 1; omega)).trans (cell_of_row _ _ 0 _ _ _ B)
  have cB1 : ∀ w', Below (w.heap.size + 1 + 1) W0 w' → w'.cell? ⟨w.heap.size + 1, 1, none⟩ = some (.int .u64 (lb b 1)) := fun w' h => (h.cell (p := ⟨w.heap.size + 1, 1, none⟩) (by show w.heap.size + 1 < w.heap.size + 1 + 1; omega)).trans (cell_of_row _ _ 1 _ _ _ B)
  have cB2 : ∀ w', Below (w.heap.size + 1 + 1) W0 w' → w'.cell? ⟨w.heap.size + 1, 2, none⟩ = some (.int .u64 (lb b 2)) := fun w' h => (h.cell (p := ⟨w.heap.size + 1, 2, none⟩) (by show w.heap.size + 1 < w.heap.size + 1 + 1; omega)).trans (cell_of_row _ _ 2 _ _ _ B)
  have cB3 : ∀ w', Below (w.heap.size + 1 + 1) W0 w' → w'.cell? ⟨w.heap.size + 1, 3, none⟩ = some (.int .u64 (lb b 3)) := fun w' h => (h.cell (p := ⟨w.heap.size + 1, 3, none⟩) (by show w.heap.size + 1 < w.heap.size + 1 + 1; omega)).trans (cell_of_row _ _ 3 _ _ _ B)
  have HR := Lib.hid R
  have HW := Lib.hid hW
  clear A B R hW
  refine wp_region_held_drew (S := fun w' => Below (w.heap.size + 1 + 1) W0 w') (by as_aux_lemma => kernel_rfl) (Below.refl _ _).drew (fun hHeld => ?_)
  simp only [List.size_toArray, List.length_cons, List.length_nil, Nat.reduceAdd, Array.replicate_succ, Array.replicate_zero, List.push_toArray, List.nil_append, List.cons_append]
  refine wpAnyH_take (i := 0) (oi := { dst := some 5, op := Op.load 24 (Operand.tmp 2), type := 24, pos := "ref.go:52", after := #[], guard := none }) (v := ?vq0) rfl (by as_aux_lemma => kernel_rfl) (by as_aux_lemma => kernel_rfl) (by as_aux_lemma => kernel_rfl) (fun _ _ _ h => h) (Or.inl ⟨by rfl, ?yq0⟩) (by assumption) ?rq0
  case yq0 => (intro w hSw; (try dsimp only at hSw); go_simp <;> with_reducible rfl)
  simp only [Act.put, List.setIfInBounds_toArray, List.set_cons_zero, List.set_cons_succ]
  refine wpAnyH_take (i := 1) (oi := { dst := some 6, op := Op.load 24 (Operand.tmp 3), type := 24, pos := "ref.go:52", after := #[], guard := none }) (v := ?vq1) rfl (by as_aux_lemma => kernel_rfl) (by as_aux_lemma => kernel_rfl) (by as_aux_lemma => kernel_rfl) (fun _ _ _ h => h) (Or.inl ⟨by rfl, ?yq1⟩) (by assumption) ?rq1
  case yq1 => (intro w hSw; (try dsimp only at hSw); go_simp <;> with_reducible rfl)
  simp only [Act.put, List.setIfInBounds_toArray, List.set_cons_zero, List.set_cons_succ]
  refine wpAnyH_ready (rs := [2]) (by as_aux_lemma => kernel_rfl) (by simp) ?_
  refine AllReadyH.cons (o := { dst := some 7, op := Op.call { callee := Callee.value (Operand.func 35), args := #[Operand.tmp 6], argTypes := #[24] }, type := 24, pos := "ref.go:52", after := #[{ on := 1, ground := Ground.data }], guard := none }) rfl (fun K hK => ?_) (by exact AllReadyH.nil)
  go_simp
  (go_at_call 35; refine (rnot_any _ _).mono ?_; rintro e wk2 ⟨rfl, hk2⟩)
  refine hK.out _ _ (by (try dsimp only); (first | assumption | exact (Below.refl _ _).drew | exact rstepB hle (by assumption) (by assumption))) (fun hHeld => ?_)
  clear hK K
  simp only [List.setIfInBounds_toArray, List.set_cons_zero, List.set_cons_succ]
  refine wpAnyH_ready (rs := [3]) (by as_aux_lemma => kernel_rfl) (by simp) ?_
  refine AllReadyH.cons (o := { dst := some 8, op := Op.call { callee := Callee.value (Operand.func 17), args := #[Operand.tmp 5, Operand.tmp 7], argTypes := #[24, 24] }, type := 24, pos := "ref.go:52", after := #[{ on := 0, ground := Ground.data }, { on := 2, ground := Ground.data }, { on := 2, ground := Ground.chain }], guard := none }) rfl (fun K hK => ?_) (by exact AllReadyH.nil)
  go_simp
  (go_at_call 17; refine (radd_any _ _ _).mono ?_; rintro e wk3 ⟨rfl, hk3⟩)
  refine hK.out _ _ (by (try dsimp only); (first | assumption | exact (Below.refl _ _).drew | exact rstepB hle (by assumption) (by assumption))) (fun hHeld => ?_)
  clear hK K
  simp only [List.setIfInBounds_toArray, List.set_cons_zero, List.set_cons_succ]
  refine wpAnyH_ready (rs := [4]) (by as_aux_lemma => kernel_rfl) (by simp) ?_
  refine AllReadyH.cons (o := { dst := some 9, op := Op.call { callee := Callee.value (Operand.func 12), args := #[Operand.const (Value.int IntKind.u64 1)], argTypes := #[22] }, type := 24, pos := "ref.go:52", after := #[{ on := 3, ground := Ground.chain }], guard := none }) rfl (fun K hK => ?_) (by exact AllReadyH.nil)
  go_simp
  (go_at_call 12; refine (rof_any 1 (by decide) _).mono ?_; rintro e wk4 ⟨rfl, hk4⟩)
  refine hK.out _ _ (by (try dsimp only); (first | assumption | exact (Below.refl _ _).drew | exact rstepB hle (by assumption) (by assumption))) (fun hHeld => ?_)
  clear hK K
  simp only [List.setIfInBounds_toArray, List.set_cons_zero, List.set_cons_succ]
  refine wpAnyH_ready (rs := [5]) (by as_aux_lemma => kernel_rfl) (by simp) ?_
  refine AllReadyH.cons (o := { dst := some 10, op := Op.call { callee := Callee.value (Operand.func 17), args := #[Operand.tmp 8, Operand.tmp 9], argTypes := #[24, 24] }, type := 24, pos := "ref.go:52", after := #[{ on := 3, ground := Ground.data }, { on := 4, ground := Ground.data }, { on := 4, ground := Ground.chain }], guard := none }) rfl (fun K hK => ?_) (by exact AllReadyH.nil)
  go_simp
  (go_at_call 17; refine (radd_any _ _ _).mono ?_; rintro e wk5 ⟨rfl, hk5⟩)
  refine hK.out _ _ (by (try dsimp only); (first | assumption | exact (Below.refl _ _).drew | exact rstepB hle (by assumption) (by assumption))) (fun hHeld => ?_)
  clear hK K
  simp only [List.setIfInBounds_toArray, List.set_cons_zero, List.set_cons_succ]
  refine wpAnyH_ready (rs := [6]) (by as_aux_lemma => kernel_rfl) (by simp) ?_
  refine AllReadyH.cons (o := { dst := none, op := Op.store 24 (Operand.tmp 4) (Operand.tmp 10), type := 0, pos := "ref.go:52", after := #[{ on := 5, ground := Ground.data }, { on := 5, ground := Ground.chain }, { on := 0, ground := Ground.phase }, { on := 1, ground := Ground.phase }, { on := 2, ground := Ground.phase }, { on := 3, ground := Ground.phase }, { on := 4, ground := Ground.phase }, { on := 5, ground := Ground.phase }], guard := none }) rfl (fun K hK => ?_) (by exact AllReadyH.nil)
  have hR2 := (((HR.out.drewR.keep hk2).keep hk3).keep hk4).keep hk5
  rw [if_pos (by rfl)]
  refine wp_store_mid 24 (.tmp 4) (.tmp 10) rfl (w.heap.size + 1 + 1) 0 (Wc (a + ntN b + 1)) rfl rfl (hR2.there _ (Nat.le_refl 4)) HI.out (wc_one _) (hK.out _ _ (below_setCells' (Nat.le_refl _) _ 0 _ hHeld) (fun hHeld => ?_))
  have hR3 := blk_setCells hR2 (Wc (a + ntN b + 1)) rfl (wc_one _)
  clear hK K
  simp only [List.setIfInBounds_toArray, List.set_cons_zero, List.set_cons_succ]
  refine wpAnyH_done (by as_aux_lemma => kernel_rfl) ?_ _
  have hB := rstepB (Nat.le_refl _) (Below.refl _ _) (HW.out.trans (hHeld.mono (by omega)))
  clear cA0 cA1 cA2 cA3 cB0 cB1 cB2 cB3
  generalize wk5.setCells (w.heap.size + 1 + 1) 0 (Wc (a + ntN b + 1)).toList = wz at hR3 hB ⊢
  rw [sb_nt] at hR3
  have r0 := (cell_of_row wz _ 0 _ _ _ hR3).trans (wc_get _ 0 (by omega))
  have r1 := (cell_of_row wz _ 1 _ _ _ hR3).trans (wc_get _ 1 (by omega))
  have r2 := (cell_of_row wz _ 2 _ _ _ hR3).trans (wc_get _ 2 (by omega))
  have r3 := (cell_of_row wz _ 3 _ _ _ hR3).trans (wc_get _ 3 (by omega))
  clear hR3 hR2
  go_wp2
  exact bodyPost_ret (v := W (sb a b)) (by simp [results, Tryd.results22, go_sem, r0, r1, r2, r3]) rfl ⟨rfl, hB⟩

end Go.Proofs.YtidpekcegocjfaaDoor

/- The reference of layer word: Mul, by a contract. -/
namespace Go.Proofs.YtidpekcegocjfaaDoor
open Go.RowKit
attribute [local go_sem] ix0 ix1 ix2 ix3
/-! One row of the product: S + 256^i * (d * b), byte by byte. -/
def cyM (S d b i k : Nat) : Nat := (S % 256 ^ (i + k) + 256 ^ i * (d * (b % 256 ^ k))) / 256 ^ (i + k)
theorem cyM_zero (S d b i : Nat) : cyM S d b i 0 = 0 := by
  unfold cyM
  rw [Nat.pow_zero, Nat.mod_one, Nat.mul_zero, Nat.mul_zero, Nat.add_zero, Nat.add_zero]
  exact Nat.div_eq_of_lt (Nat.mod_lt _ (p256_pos i))
theorem mul_mid (Q d x y : Nat) : Q * (d * (x + y)) = Q * (d * x) + Q * (d * y) := by rw [Nat.mul_add, Nat.mul_add]
theorem row_next (S d b i k : Nat) : S % 256 ^ (i + (k + 1)) + 256 ^ i * (d * (b % 256 ^ (k + 1))) = (S % 256 ^ (i + k) + 256 ^ i * (d * (b % 256 ^ k))) + 256 ^ (i + k) * (byA S (i + k) + d * byA b k) := by
  unfold byA
  rw [← Nat.add_assoc i k 1, mod_succ256 S (i + k), mod_succ256 b k, mul_mid, Nat.mul_add (256 ^ (i + k))]
  have e : 256 ^ i * (d * (256 ^ k * (b / 256 ^ k % 256))) = 256 ^ (i + k) * (d * (b / 256 ^ k % 256)) := by
    rw [Nat.pow_add, Nat.mul_assoc, Nat.mul_left_comm d]
  rw [e]; omega
theorem cyM_succ (S d b i k : Nat) : (cyM S d b i k + byA S (i + k) + d * byA b k) / 256 = cyM S d b i (k + 1) := by
  unfold cyM
  rw [row_next, ← Nat.add_assoc i k 1, Nat.pow_succ 256 (i + k), ← Nat.div_div_eq_div_mul, Nat.add_mul_div_left _ _ (p256_pos _), Nat.add_assoc]
theorem byA_row (S d b i k : Nat) : (cyM S d b i k + byA S (i + k) + d * byA b k) % 256 = byA (S + 256 ^ i * (d * b)) (i + k) := by
  have hS := Nat.div_add_mod S (256 ^ (i + (k + 1)))
  have hb := Nat.div_add_mod b (256 ^ (k + 1))
  generalize S / 256 ^ (i + (k + 1)) = q at hS
  generalize b / 256 ^ (k + 1) = q2 at hb
  have e : S + 256 ^ i * (d * b) = (S % 256 ^ (i + k) + 256 ^ i * (d * (b % 256 ^ k))) + 256 ^ (i + k) * (byA S (i + k) + d * byA b k + 256 * (q + d * q2)) := by
    have h1 := row_next S d b i k
    have h2 : 256 ^ i * (d * b) = 256 ^ i * (d * (b % 256 ^ (k + 1))) + 256 ^ (i + k) * (256 * (d * q2)) := by
      conv => lhs; rw [← hb]
      rw [Nat.add_comm, mul_mid]
      congr 1
      rw [Nat.pow_succ, Nat.pow_add, Nat.mul_assoc (256 ^ k), Nat.mul_left_comm d, Nat.mul_left_comm d, Nat.mul_assoc]
    have h3 : 256 ^ (i + (k + 1)) * q = 256 ^ (i + k) * (256 * q) := by
      rw [← Nat.add_assoc, Nat.pow_succ, Nat.mul_assoc]
    have h4 := Nat.mul_add (256 ^ (i + k)) (byA S (i + k) + d * byA b k) (256 * (q + d * q2))
    have h5 : 256 ^ (i + k) * (256 * (q + d * q2)) = 256 ^ (i + k) * (256 * q) + 256 ^ (i + k) * (256 * (d * q2)) := by rw [Nat.mul_add 256, Nat.mul_add]
    rw [h4, h5, h2]
    omega
  unfold byA cyM at *
  rw [e, Nat.add_mul_div_left _ _ (p256_pos _)]
  omega
theorem cyM_lt (S d b i k : Nat) (hd : d < 256) : cyM S d b i k < 256 := by
  unfold cyM
  apply Nat.div_lt_of_lt_mul
  have h1 := Nat.mod_lt S (p256_pos (i + k))
  have h2 := Nat.mod_lt b (p256_pos k)
  have h3 : d * (b % 256 ^ k) ≤ 255 * 256 ^ k := Nat.mul_le_mul (by omega) (by omega)
  have h4 : 256 ^ i * (d * (b % 256 ^ k)) ≤ 256 ^ i * (255 * 256 ^ k) := Nat.mul_le_mul_left _ h3
  have h5 : 256 ^ i * (255 * 256 ^ k) = 255 * 256 ^ (i + k) := by rw [Nat.mul_left_comm, ← Nat.pow_add]
  omega
/-- The bytes below the row's place stay. -/
theorem byA_low (S T i q : Nat) (hq : q < i) : byA (S + 256 ^ i * T) q = byA S q := by
  unfold byA
  have e : 256 ^ i * T = 256 ^ q * (256 * (256 ^ (i - q - 1) * T)) := by
    rw [← Nat.mul_assoc, ← Nat.mul_assoc, ← Nat.pow_succ, ← Nat.pow_add]; congr 2; omega
  rw [e, Nat.add_mul_div_left _ _ (p256_pos _)]; omega
theorem adC_low (S T i : Nat) : adC S (256 ^ i * T) i = byC S 32 := by
  apply Array.ext_getElem?
  intro p
  by_cases hp : p < 32
  · rw [adC_get _ _ _ _ hp, byC_get _ _ _ hp, if_pos (by omega : 31 - p < 32)]
    by_cases h : 31 - p < i
    · rw [if_pos h, byA_low _ _ _ _ h]
    · rw [if_neg h]
  · rw [Array.getElem?_eq_none (by rw [adC_size]; omega), Array.getElem?_eq_none (by rw [byC_size]; omega)]
/-- The rows: what a's low bytes come to. -/
theorem rows_next (a b i : Nat) : a % 256 ^ i * b + 256 ^ i * (byA a i * b) = a % 256 ^ (i + 1) * b := by
  unfold byA
  rw [mod_succ256, Nat.add_mul, Nat.mul_assoc]
theorem rows_all (a b : Nat) : a % 256 ^ 32 * b % MM = a * b % MM := by
  rw [← MM_256, Nat.mod_mul_mod]
theorem byC_nought : byC 0 32 = byC 0 0 := by
  apply Array.ext_getElem?
  intro p
  by_cases hp : p < 32
  · rw [byC_get _ _ _ hp, byC_get _ _ _ hp, if_neg (by omega : ¬ 31 - p < 0)]
    split <;> simp [byA]
  · rw [Array.getElem?_eq_none (by rw [byC_size]; omega), Array.getElem?_eq_none (by rw [byC_size]; omega)]
theorem byA_mod (a k : Nat) (h : k < 32) : byA (a % MM) k = byA a k := by
  unfold byA
  have e : MM = 256 ^ k * (256 * 256 ^ (31 - k)) := by
    rw [MM_256, ← Nat.mul_assoc, ← Nat.pow_succ, ← Nat.pow_add]; congr 1; omega
  rw [e, Nat.mod_mul_right_div_self, Nat.mod_mul_right_mod]
theorem byC_congr {a b : Nat} (h : a % MM = b % MM) : byC a 32 = byC b 32 := by
  apply Array.ext_getElem?
  intro p
  by_cases hp : p < 32
  · rw [byC_get _ _ _ hp, byC_get _ _ _ hp, ← byA_mod a _ (by omega), ← byA_mod b _ (by omega), h]
  · rw [Array.getElem?_eq_none (by rw [byC_size]; omega), Array.getElem?_eq_none (by rw [byC_size]; omega)]

set_option maxRecDepth 100000 in
set_option maxHeartbeats 4000000 in
theorem rmul_any (a b : Nat) (w : World) :
    Calls Tryd.prog 13 #[W a, W b] w fun e w' => e = .returned (W (a * b)) ∧ Below w.heap.size w w' := by
  have hi : ∀ c : Nat, (Tryd.prog.info? 44).map (·.size) = some (byC c 32).size := fun c => by rw [byC_size]; kernel_rfl
  have HI := fun c => Lib.hid (hi c)
  clear hi
  go_enter Tryd.func13, Tryd.ntmps13
  go_wp2_with fail
  have A : Blk (((w.alloc (.cells (Wc a) 24)).alloc (.cells (Wc b) 24)).alloc (.cells (Wc 0) 24)) w.heap.size 24 (Wc a) := ((Blk.new _ _ _).alloc _).alloc _
  have B : Blk (((w.alloc (.cells (Wc a) 24)).alloc (.cells (Wc b) 24)).alloc (.cells (Wc 0) 24)) (w.heap.size + 1) 24 (Wc b) := (Blk.newS w _ _ _).alloc _
  have R : Blk (((w.alloc (.cells (Wc a) 24)).alloc (.cells (Wc b) 24)).alloc (.cells (Wc 0) 24)) (w.heap.size + 1 + 1) 24 (Wc 0) := by
    have h := Blk.newS (w.alloc (.cells (Wc a) 24)) (.cells (Wc b) 24) 24 (Wc 0)
    rwa [World.size_alloc] at h
  have hW : Below w.heap.size w (((w.alloc (.cells (Wc a) 24)).alloc (.cells (Wc b) 24)).alloc (.cells (Wc 0) 24)) := balloc (balloc (balloc (Below.refl _ _) _) _) _
  have e0 : Wc 0 = #[.int .u64 0, .int .u64 0, .int .u64 0, .int .u64 0] := by unfold Wc; simp only [lb_zero]
  obtain ⟨W0, hW0⟩ : ∃ W0, ((w.alloc (.cells (Wc a) 24)).alloc (.cells (Wc b) 24)).alloc (.cells (Wc 0) 24) = W0 := ⟨_, rfl⟩
  rw [hW0] at A B R hW
  rw [e0] at hW0
  rw [hW0]
  clear hW0 e0
  have cA0 : ∀ w', Below W0.heap.size W0 w' → w'.cell? ⟨w.heap.size, 0, none⟩ = some (.int .u64 (lb a 0)) := fun w' h => (h.cell (p := ⟨w.heap.size, 0, none⟩) A.lt).trans (cell_of_row _ _ 0 _ _ _ A)
  have cA1 : ∀ w', Below W0.heap.size W0 w' → w'.cell? ⟨w.heap.size, 1, none⟩ = some (.int .u64 (lb a 1)) := fun w' h => (h.cell (p := ⟨w.heap.size, 1, none⟩) A.lt).trans (cell_of_row _ _ 1 _ _ _ A)
  have cA2 : ∀ w', Below W0.heap.size W0 w' → w'.cell? ⟨w.heap.size, 2, none⟩ = some (.int .u64 (lb a 2)) := fun w' h => (h.cell (p := ⟨w.heap.size, 2, none⟩) A.lt).trans (cell_of_row _ _ 2 _ _ _ A)
  have cA3 : ∀ w', Below W0.heap.size W0 w' → w'.cell? ⟨w.heap.size, 3, none⟩ = some (.int .u64 (lb a 3)) := fun w' h => (h.cell (p := ⟨w.heap.size, 3, none⟩) A.lt).trans (cell_of_row _ _ 3 _ _ _ A)
  have cB0 : ∀ w', Below W0.heap.size W0 w' → w'.cell? ⟨w.heap.size + 1, 0, none⟩ = some (.int .u64 (lb b 0)) := fun w' h => (h.cell (p := ⟨w.heap.size + 1, 0, none⟩) B.lt).trans (cell_of_row _ _ 0 _ _ _ B)
  have cB1 : ∀ w', Below W0.heap.size W0 w' → w'.cell? ⟨w.heap.size + 1, 1, none⟩ = some (.int .u64 (lb b 1)) := fun w' h => (h.cell (p := ⟨w.heap.size + 1, 1, none⟩) B.lt).trans (cell_of_row _ _ 1 _ _ _ B)
  have cB2 : ∀ w', Below W0.heap.size W0 w' → w'.cell? ⟨w.heap.size + 1, 2, none⟩ = some (.int .u64 (lb b 2)) := fun w' h => (h.cell (p := ⟨w.heap.size + 1, 2, none⟩) B.lt).trans (cell_of_row _ _ 2 _ _ _ B)
  have cB3 : ∀ w', Below W0.heap.size W0 w' → w'.cell? ⟨w.heap.size + 1, 3, none⟩ = some (.int .u64 (lb b 3)) := fun w' h => (h.cell (p := ⟨w.heap.size + 1, 3, none⟩) B.lt).trans (cell_of_row _ _ 3 _ _ _ B)
  have HR := Lib.hid R
  have HW := Lib.hid hW
  have hRl := R.lt
  clear A B R hW
  refine join2 (C := fun X Y wz => Blk wz X 44 (byC 0 0) ∧ Blk wz Y 44 (byC 0 0) ∧ X ≠ Y ∧ W0.heap.size ≤ X ∧ W0.heap.size ≤ Y ∧ Below W0.heap.size W0 wz) ?PJ ?main ?hrest
  case main =>
    intro rest
    refine wp_region_held_drew (S := fun w' => Below W0.heap.size W0 w') (by as_aux_lemma => kernel_rfl) (Below.refl _ _).drew (fun hHeld => ?_)
    simp only [List.size_toArray, List.length_cons, List.length_nil, Nat.reduceAdd, Array.replicate_succ, Array.replicate_zero, List.push_toArray, List.nil_append, List.cons_append]
    refine wpAnyH_take (i := 0) (oi := { dst := some 11, op := Op.load 24 (Operand.tmp 2), type := 24, pos := "ref.go:56", after := #[], guard := none }) (v := ?vq0) rfl (by as_aux_lemma => kernel_rfl) (by as_aux_lemma => kernel_rfl) (by as_aux_lemma => kernel_rfl) (fun _ _ _ h => h) (Or.inl ⟨by rfl, ?yq0⟩) (by assumption) ?rq0
    case yq0 => (intro w hSw; (try dsimp only at hSw); go_simp <;> with_reducible rfl)
    simp only [Act.put, List.setIfInBounds_toArray, List.set_cons_zero, List.set_cons_succ]
    refine wpAnyH_take (i := 2) (oi := { dst := some 13, op := Op.load 24 (Operand.tmp 3), type := 24, pos := "ref.go:56", after := #[], guard := none }) (v := ?vq1) rfl (by as_aux_lemma => kernel_rfl) (by as_aux_lemma => kernel_rfl) (by as_aux_lemma => kernel_rfl) (fun _ _ _ h => h) (Or.inl ⟨by rfl, ?yq1⟩) (by assumption) ?rq1
    case yq1 => (intro w hSw; (try dsimp only at hSw); go_simp <;> with_reducible rfl)
    simp only [Act.put, List.setIfInBounds_toArray, List.set_cons_zero, List.set_cons_succ]
    refine wpAnyH_ready (rs := [1, 4, 5]) (by as_aux_lemma => kernel_rfl) (by simp) ?_
    refine AllReadyH.cons (o := { dst := some 12, op := Op.call { callee := Callee.value (Operand.func 21), args := #[Operand.tmp 11], argTypes := #[24] }, type := 44, pos := "ref.go:56", after := #[{ on := 0, ground := Ground.data }], guard := none }) rfl (fun K hK => ?_) ?_
    · go_simp
      (go_at_call 21; refine (rbytes_any _ _).mono ?_; rintro e wk1 ⟨rfl, hk1⟩)
      refine hK.out _ _ (by (try dsimp only); (first | assumption | exact (Below.refl _ _).drew | exact (balloc (Below.refl _ _) _).drew | exact rstep (by assumption) (by assumption) | exact balloc (by assumption) _ | exact balloc (balloc (by assumption) _) _)) (fun hHeld => ?_)
      clear hK K
      simp only [List.setIfInBounds_toArray, List.set_cons_zero, List.set_cons_succ]
      refine wpAnyH_ready (rs := [3, 4, 5]) (by as_aux_lemma => kernel_rfl) (by simp) ?_
      refine AllReadyH.cons (o := { dst := some 14, op := Op.call { callee := Callee.value (Operand.func 21), args := #[Operand.tmp 13], argTypes := #[24] }, type := 44, pos := "ref.go:56", after := #[{ on := 2, ground := Ground.data }, { on := 1, ground := Ground.chain }], guard := none }) rfl (fun K hK => ?_) ?_
      · go_simp
        (go_at_call 21; refine (rbytes_any _ _).mono ?_; rintro e wk3 ⟨rfl, hk3⟩)
        refine hK.out _ _ (by (try dsimp only); (first | assumption | exact (Below.refl _ _).drew | exact (balloc (Below.refl _ _) _).drew | exact rstep (by assumption) (by assumption) | exact balloc (by assumption) _ | exact balloc (balloc (by assumption) _) _)) (fun hHeld => ?_)
        clear hK K
        simp only [List.setIfInBounds_toArray, List.set_cons_zero, List.set_cons_succ]
        refine wpAnyH_ready (rs := [4, 5]) (by as_aux_lemma => kernel_rfl) (by simp) ?_
        refine AllReadyH.cons (o := { dst := some 5, op := Op.alloc 44, type := 0, pos := "ref.go:56", after := #[], guard := none }) rfl (fun K hK => ?_) ?_
        · go_simp
          refine hK.out _ _ (by (try dsimp only); (first | assumption | exact (Below.refl _ _).drew | exact (balloc (Below.refl _ _) _).drew | exact rstep (by assumption) (by assumption) | exact balloc (by assumption) _ | exact balloc (balloc (by assumption) _) _)) (fun hHeld => ?_)
          clear hK K
          simp only [List.setIfInBounds_toArray, List.set_cons_zero, List.set_cons_succ]
          refine wpAnyH_ready (rs := [5]) (by as_aux_lemma => kernel_rfl) (by simp) ?_
          refine AllReadyH.cons (o := { dst := some 6, op := Op.alloc 44, type := 0, pos := "ref.go:56", after := #[], guard := none }) rfl (fun K hK => ?_) (by exact AllReadyH.nil)
          go_simp
          refine hK.out _ _ (by (try dsimp only); (first | assumption | exact (Below.refl _ _).drew | exact (balloc (Below.refl _ _) _).drew | exact rstep (by assumption) (by assumption) | exact balloc (by assumption) _ | exact balloc (balloc (by assumption) _) _)) (fun hHeld => ?_)
          clear hK K
          simp only [List.setIfInBounds_toArray, List.set_cons_zero, List.set_cons_succ]
          have z1 : Blk ((wk3.alloc (.cells (byC 0 0) 44)).alloc (.cells (byC 0 0) 44)) wk3.heap.size 44 (byC 0 0) := (Blk.new _ _ _).alloc _
          have z2 : Blk ((wk3.alloc (.cells (byC 0 0) 44)).alloc (.cells (byC 0 0) 44)) (wk3.heap.size + 1) 44 (byC 0 0) := Blk.newS _ _ _ _
          have z3 : wk3.heap.size ≠ wk3.heap.size + 1 := by omega
          have z4 : W0.heap.size ≤ wk3.heap.size := by (have e1 := hk1.size; have e3 := hk3.size; first | (simp only [World.size_drew'] at e1 e3 ⊢; omega) | (simp only [World.size_alloc, World.size_drew'] at e1 e3 ⊢; omega))
          have z5 : W0.heap.size ≤ wk3.heap.size + 1 := by omega
          rw [byC_zero 0] at z1 z2
          have z6 := hHeld
          clear hHeld
          generalize ((wk3.alloc _).alloc _) = wz at z1 z2 z6 ⊢
          generalize wk3.heap.size + 1 = Y at z2 z3 z5 ⊢
          generalize wk3.heap.size = X at z1 z3 z4 ⊢
          rw [← byC_zero 0] at z1 z2
          exact rest X Y wz ⟨z1, z2, z3, z4, z5, z6⟩
        refine AllReadyH.cons (o := { dst := some 6, op := Op.alloc 44, type := 0, pos := "ref.go:56", after := #[], guard := none }) rfl (fun K hK => ?_) (by exact AllReadyH.nil)
        go_simp
        refine hK.out _ _ (by (try dsimp only); (first | assumption | exact (Below.refl _ _).drew | exact (balloc (Below.refl _ _) _).drew | exact rstep (by assumption) (by assumption) | exact balloc (by assumption) _ | exact balloc (balloc (by assumption) _) _)) (fun hHeld => ?_)
        clear hK K
        simp only [List.setIfInBounds_toArray, List.set_cons_zero, List.set_cons_succ]
        refine wpAnyH_ready (rs := [4]) (by as_aux_lemma => kernel_rfl) (by simp) ?_
        refine AllReadyH.cons (o := { dst := some 5, op := Op.alloc 44, type := 0, pos := "ref.go:56", after := #[], guard := none }) rfl (fun K hK => ?_) (by exact AllReadyH.nil)
        go_simp
        refine hK.out _ _ (by (try dsimp only); (first | assumption | exact (Below.refl _ _).drew | exact (balloc (Below.refl _ _) _).drew | exact rstep (by assumption) (by assumption) | exact balloc (by assumption) _ | exact balloc (balloc (by assumption) _) _)) (fun hHeld => ?_)
        clear hK K
        simp only [List.setIfInBounds_toArray, List.set_cons_zero, List.set_cons_succ]
        refine rest _ _ _ ⟨?_, ?_, ?_, ?_, ?_, hHeld⟩
        · (rw [byC_zero]; repeat (first | exact Blk.new _ _ _ | exact Blk.newS _ _ _ _ | with_reducible refine Blk.drewR ?_ | with_reducible refine Blk.alloc ?_ _ | refine Blk.keep ?_ hk3 | refine Blk.keep ?_ hk1))
        · (rw [byC_zero]; repeat (first | exact Blk.new _ _ _ | exact Blk.newS _ _ _ _ | with_reducible refine Blk.drewR ?_ | with_reducible refine Blk.alloc ?_ _ | refine Blk.keep ?_ hk3 | refine Blk.keep ?_ hk1))
        · (have e1 := hk1.size; have e3 := hk3.size; first | (simp only [World.size_drew'] at e1 e3 ⊢; omega) | (simp only [World.size_alloc, World.size_drew'] at e1 e3 ⊢; omega))
        · (have e1 := hk1.size; have e3 := hk3.size; first | (simp only [World.size_drew'] at e1 e3 ⊢; omega) | (simp only [World.size_alloc, World.size_drew'] at e1 e3 ⊢; omega))
        · (have e1 := hk1.size; have e3 := hk3.size; first | (simp only [World.size_drew'] at e1 e3 ⊢; omega) | (simp only [World.size_alloc, World.size_drew'] at e1 e3 ⊢; omega))
      refine AllReadyH.cons (o := { dst := some 5, op := Op.alloc 44, type := 0, pos := "ref.go:56", after := #[], guard := none }) rfl (fun K hK => ?_) ?_
      · go_simp
        refine hK.out _ _ (by (try dsimp only); (first | assumption | exact (Below.refl _ _).drew | exact (balloc (Below.refl _ _) _).drew | exact rstep (by assumption) (by assumption) | exact balloc (by assumption) _ | exact balloc (balloc (by assumption) _) _)) (fun hHeld => ?_)
        clear hK K
        simp only [List.setIfInBounds_toArray, List.set_cons_zero, List.set_cons_succ]
        refine wpAnyH_ready (rs := [3, 5]) (by as_aux_lemma => kernel_rfl) (by simp) ?_
        refine AllReadyH.cons (o := { dst := some 14, op := Op.call { callee := Callee.value (Operand.func 21), args := #[Operand.tmp 13], argTypes := #[24] }, type := 44, pos := "ref.go:56", after := #[{ on := 2, ground := Ground.data }, { on := 1, ground := Ground.chain }], guard := none }) rfl (fun K hK => ?_) ?_
        · go_simp
          (go_at_call 21; refine (rbytes_any _ _).mono ?_; rintro e wk3 ⟨rfl, hk3⟩)
          refine hK.out _ _ (by (try dsimp only); (first | assumption | exact (Below.refl _ _).drew | exact (balloc (Below.refl _ _) _).drew | exact rstep (by assumption) (by assumption) | exact balloc (by assumption) _ | exact balloc (balloc (by assumption) _) _)) (fun hHeld => ?_)
          clear hK K
          simp only [List.setIfInBounds_toArray, List.set_cons_zero, List.set_cons_succ]
          refine wpAnyH_ready (rs := [5]) (by as_aux_lemma => kernel_rfl) (by simp) ?_
          refine AllReadyH.cons (o := { dst := some 6, op := Op.alloc 44, type := 0, pos := "ref.go:56", after := #[], guard := none }) rfl (fun K hK => ?_) (by exact AllReadyH.nil)
          go_simp
          refine hK.out _ _ (by (try dsimp only); (first | assumption | exact (Below.refl _ _).drew | exact (balloc (Below.refl _ _) _).drew | exact rstep (by assumption) (by assumption) | exact balloc (by assumption) _ | exact balloc (balloc (by assumption) _) _)) (fun hHeld => ?_)
          clear hK K
          simp only [List.setIfInBounds_toArray, List.set_cons_zero, List.set_cons_succ]
          refine rest _ _ _ ⟨?_, ?_, ?_, ?_, ?_, hHeld⟩
          · (rw [byC_zero]; repeat (first | exact Blk.new _ _ _ | exact Blk.newS _ _ _ _ | with_reducible refine Blk.drewR ?_ | with_reducible refine Blk.alloc ?_ _ | refine Blk.keep ?_ hk3 | refine Blk.keep ?_ hk1))
          · (rw [byC_zero]; repeat (first | exact Blk.new _ _ _ | exact Blk.newS _ _ _ _ | with_reducible refine Blk.drewR ?_ | with_reducible refine Blk.alloc ?_ _ | refine Blk.keep ?_ hk3 | refine Blk.keep ?_ hk1))
          · (have e1 := hk1.size; have e3 := hk3.size; first | (simp only [World.size_drew'] at e1 e3 ⊢; omega) | (simp only [World.size_alloc, World.size_drew'] at e1 e3 ⊢; omega))
          · (have e1 := hk1.size; have e3 := hk3.size; first | (simp only [World.size_drew'] at e1 e3 ⊢; omega) | (simp only [World.size_alloc, World.size_drew'] at e1 e3 ⊢; omega))
          · (have e1 := hk1.size; have e3 := hk3.size; first | (simp only [World.size_drew'] at e1 e3 ⊢; omega) | (simp only [World.size_alloc, World.size_drew'] at e1 e3 ⊢; omega))
        refine AllReadyH.cons (o := { dst := some 6, op := Op.alloc 44, type := 0, pos := "ref.go:56", after := #[], guard := none }) rfl (fun K hK => ?_) (by exact AllReadyH.nil)
        go_simp
        refine hK.out _ _ (by (try dsimp only); (first | assumption | exact (Below.refl _ _).drew | exact (balloc (Below.refl _ _) _).drew | exact rstep (by assumption) (by assumption) | exact balloc (by assumption) _ | exact balloc (balloc (by assumption) _) _)) (fun hHeld => ?_)
        clear hK K
        simp only [List.setIfInBounds_toArray, List.set_cons_zero, List.set_cons_succ]
        refine wpAnyH_ready (rs := [3]) (by as_aux_lemma => kernel_rfl) (by simp) ?_
        refine AllReadyH.cons (o := { dst := some 14, op := Op.call { callee := Callee.value (Operand.func 21), args := #[Operand.tmp 13], argTypes := #[24] }, type := 44, pos := "ref.go:56", after := #[{ on := 2, ground := Ground.data }, { on := 1, ground := Ground.chain }], guard := none }) rfl (fun K hK => ?_) (by exact AllReadyH.nil)
        go_simp
        (go_at_call 21; refine (rbytes_any _ _).mono ?_; rintro e wk3 ⟨rfl, hk3⟩)
        refine hK.out _ _ (by (try dsimp only); (first | assumption | exact (Below.refl _ _).drew | exact (balloc (Below.refl _ _) _).drew | exact rstep (by assumption) (by assumption) | exact balloc (by assumption) _ | exact balloc (balloc (by assumption) _) _)) (fun hHeld => ?_)
        clear hK K
        simp only [List.setIfInBounds_toArray, List.set_cons_zero, List.set_cons_succ]
        refine rest _ _ _ ⟨?_, ?_, ?_, ?_, ?_, hHeld⟩
        · (rw [byC_zero]; repeat (first | exact Blk.new _ _ _ | exact Blk.newS _ _ _ _ | with_reducible refine Blk.drewR ?_ | with_reducible refine Blk.alloc ?_ _ | refine Blk.keep ?_ hk3 | refine Blk.keep ?_ hk1))
        · (rw [byC_zero]; repeat (first | exact Blk.new _ _ _ | exact Blk.newS _ _ _ _ | with_reducible refine Blk.drewR ?_ | with_reducible refine Blk.alloc ?_ _ | refine Blk.keep ?_ hk3 | refine Blk.keep ?_ hk1))
        · (have e1 := hk1.size; have e3 := hk3.size; first | (simp only [World.size_drew'] at e1 e3 ⊢; omega) | (simp only [World.size_alloc, World.size_drew'] at e1 e3 ⊢; omega))
        · (have e1 := hk1.size; have e3 := hk3.size; first | (simp only [World.size_drew'] at e1 e3 ⊢; omega) | (simp only [World.size_alloc, World.size_drew'] at e1 e3 ⊢; omega))
        · (have e1 := hk1.size; have e3 := hk3.size; first | (simp only [World.size_drew'] at e1 e3 ⊢; omega) | (simp only [World.size_alloc, World.size_drew'] at e1 e3 ⊢; omega))
      refine AllReadyH.cons (o := { dst := some 6, op := Op.alloc 44, type := 0, pos := "ref.go:56", after := #[], guard := none }) rfl (fun K hK => ?_) (by exact AllReadyH.nil)
      go_simp
      refine hK.out _ _ (by (try dsimp only); (first | assumption | exact (Below.refl _ _).drew | exact (balloc (Below.refl _ _) _).drew | exact rstep (by assumption) (by assumption) | exact balloc (by assumption) _ | exact balloc (balloc (by assumption) _) _)) (fun hHeld => ?_)
      clear hK K
      simp only [List.setIfInBounds_toArray, List.set_cons_zero, List.set_cons_succ]
      refine wpAnyH_ready (rs := [3, 4]) (by as_aux_lemma => kernel_rfl) (by simp) ?_
      refine AllReadyH.cons (o := { dst := some 14, op := Op.call { callee := Callee.value (Operand.func 21), args := #[Operand.tmp 13], argTypes := #[24] }, type := 44, pos := "ref.go:56", after := #[{ on := 2, ground := Ground.data }, { on := 1, ground := Ground.chain }], guard := none }) rfl (fun K hK => ?_) ?_
      · go_simp
        (go_at_call 21; refine (rbytes_any _ _).mono ?_; rintro e wk3 ⟨rfl, hk3⟩)
        refine hK.out _ _ (by (try dsimp only); (first | assumption | exact (Below.refl _ _).drew | exact (balloc (Below.refl _ _) _).drew | exact rstep (by assumption) (by assumption) | exact balloc (by assumption) _ | exact balloc (balloc (by assumption) _) _)) (fun hHeld => ?_)
        clear hK K
        simp only [List.setIfInBounds_toArray, List.set_cons_zero, List.set_cons_succ]
        refine wpAnyH_ready (rs := [4]) (by as_aux_lemma => kernel_rfl) (by simp) ?_
        refine AllReadyH.cons (o := { dst := some 5, op := Op.alloc 44, type := 0, pos := "ref.go:56", after := #[], guard := none }) rfl (fun K hK => ?_) (by exact AllReadyH.nil)
        go_simp
        refine hK.out _ _ (by (try dsimp only); (first | assumption | exact (Below.refl _ _).drew | exact (balloc (Below.refl _ _) _).drew | exact rstep (by assumption) (by assumption) | exact balloc (by assumption) _ | exact balloc (balloc (by assumption) _) _)) (fun hHeld => ?_)
        clear hK K
        simp only [List.setIfInBounds_toArray, List.set_cons_zero, List.set_cons_succ]
        refine rest _ _ _ ⟨?_, ?_, ?_, ?_, ?_, hHeld⟩
        · (rw [byC_zero]; repeat (first | exact Blk.new _ _ _ | exact Blk.newS _ _ _ _ | with_reducible refine Blk.drewR ?_ | with_reducible refine Blk.alloc ?_ _ | refine Blk.keep ?_ hk3 | refine Blk.keep ?_ hk1))
        · (rw [byC_zero]; repeat (first | exact Blk.new _ _ _ | exact Blk.newS _ _ _ _ | with_reducible refine Blk.drewR ?_ | with_reducible refine Blk.alloc ?_ _ | refine Blk.keep ?_ hk3 | refine Blk.keep ?_ hk1))
        · (have e1 := hk1.size; have e3 := hk3.size; first | (simp only [World.size_drew'] at e1 e3 ⊢; omega) | (simp only [World.size_alloc, World.size_drew'] at e1 e3 ⊢; omega))
        · (have e1 := hk1.size; have e3 := hk3.size; first | (simp only [World.size_drew'] at e1 e3 ⊢; omega) | (simp only [World.size_alloc, World.size_drew'] at e1 e3 ⊢; omega))
        · (have e1 := hk1.size; have e3 := hk3.size; first | (simp only [World.size_drew'] at e1 e3 ⊢; omega) | (simp only [World.size_alloc, World.size_drew'] at e1 e3 ⊢; omega))
      refine AllReadyH.cons (o := { dst := some 5, op := Op.alloc 44, type := 0, pos := "ref.go:56", after := #[], guard := none }) rfl (fun K hK => ?_) (by exact AllReadyH.nil)
      go_simp
      refine hK.out _ _ (by (try dsimp only); (first | assumption | exact (Below.refl _ _).drew | exact (balloc (Below.refl _ _) _).drew | exact rstep (by assumption) (by assumption) | exact balloc (by assumption) _ | exact balloc (balloc (by assumption) _) _)) (fun hHeld => ?_)
      clear hK K
      simp only [List.setIfInBounds_toArray, List.set_cons_zero, List.set_cons_succ]
      refine wpAnyH_ready (rs := [3]) (by as_aux_lemma => kernel_rfl) (by simp) ?_
      refine AllReadyH.cons (o := { dst := some 14, op := Op.call { callee := Callee.value (Operand.func 21), args := #[Operand.tmp 13], argTypes := #[24] }, type := 44, pos := "ref.go:56", after := #[{ on := 2, ground := Ground.data }, { on := 1, ground := Ground.chain }], guard := none }) rfl (fun K hK => ?_) (by exact AllReadyH.nil)
      go_simp
      (go_at_call 21; refine (rbytes_any _ _).mono ?_; rintro e wk3 ⟨rfl, hk3⟩)
      refine hK.out _ _ (by (try dsimp only); (first | assumption | exact (Below.refl _ _).drew | exact (balloc (Below.refl _ _) _).drew | exact rstep (by assumption) (by assumption) | exact balloc (by assumption) _ | exact balloc (balloc (by assumption) _) _)) (fun hHeld => ?_)
      clear hK K
      simp only [List.setIfInBounds_toArray, List.set_cons_zero, List.set_cons_succ]
      refine rest _ _ _ ⟨?_, ?_, ?_, ?_, ?_, hHeld⟩
      · (rw [byC_zero]; repeat (first | exact Blk.new _ _ _ | exact Blk.newS _ _ _ _ | with_reducible refine Blk.drewR ?_ | with_reducible refine Blk.alloc ?_ _ | refine Blk.keep ?_ hk3 | refine Blk.keep ?_ hk1))
      · (rw [byC_zero]; repeat (first | exact Blk.new _ _ _ | exact Blk.newS _ _ _ _ | with_reducible refine Blk.drewR ?_ | with_reducible refine Blk.alloc ?_ _ | refine Blk.keep ?_ hk3 | refine Blk.keep ?_ hk1))
      · (have e1 := hk1.size; have e3 := hk3.size; first | (simp only [World.size_drew'] at e1 e3 ⊢; omega) | (simp only [World.size_alloc, World.size_drew'] at e1 e3 ⊢; omega))
      · (have e1 := hk1.size; have e3 := hk3.size; first | (simp only [World.size_drew'] at e1 e3 ⊢; omega) | (simp only [World.size_alloc, World.size_drew'] at e1 e3 ⊢; omega))
      · (have e1 := hk1.size; have e3 := hk3.size; first | (simp only [World.size_drew'] at e1 e3 ⊢; omega) | (simp only [World.size_alloc, World.size_drew'] at e1 e3 ⊢; omega))
    refine AllReadyH.cons (o := { dst := some 5, op := Op.alloc 44, type := 0, pos := "ref.go:56", after := #[], guard := none }) rfl (fun K hK => ?_) ?_
    · go_simp
      refine hK.out _ _ (by (try dsimp only); (first | assumption | exact (Below.refl _ _).drew | exact (balloc (Below.refl _ _) _).drew | exact rstep (by assumption) (by assumption) | exact balloc (by assumption) _ | exact balloc (balloc (by assumption) _) _)) (fun hHeld => ?_)
      clear hK K
      simp only [List.setIfInBounds_toArray, List.set_cons_zero, List.set_cons_succ]
      refine wpAnyH_ready (rs := [1, 5]) (by as_aux_lemma => kernel_rfl) (by simp) ?_
      refine AllReadyH.cons (o := { dst := some 12, op := Op.call { callee := Callee.value (Operand.func 21), args := #[Operand.tmp 11], argTypes := #[24] }, type := 44, pos := "ref.go:56", after := #[{ on := 0, ground := Ground.data }], guard := none }) rfl (fun K hK => ?_) ?_
      · go_simp
        (go_at_call 21; refine (rbytes_any _ _).mono ?_; rintro e wk1 ⟨rfl, hk1⟩)
        refine hK.out _ _ (by (try dsimp only); (first | assumption | exact (Below.refl _ _).drew | exact (balloc (Below.refl _ _) _).drew | exact rstep (by assumption) (by assumption) | exact balloc (by assumption) _ | exact balloc (balloc (by assumption) _) _)) (fun hHeld => ?_)
        clear hK K
        simp only [List.setIfInBounds_toArray, List.set_cons_zero, List.set_cons_succ]
        refine wpAnyH_ready (rs := [3, 5]) (by as_aux_lemma => kernel_rfl) (by simp) ?_
        refine AllReadyH.cons (o := { dst := some 14, op := Op.call { callee := Callee.value (Operand.func 21), args := #[Operand.tmp 13], argTypes := #[24] }, type := 44, pos := "ref.go:56", after := #[{ on := 2, ground := Ground.data }, { on := 1, ground := Ground.chain }], guard := none }) rfl (fun K hK => ?_) ?_
        · go_simp
          (go_at_call 21; refine (rbytes_any _ _).mono ?_; rintro e wk3 ⟨rfl, hk3⟩)
          refine hK.out _ _ (by (try dsimp only); (first | assumption | exact (Below.refl _ _).drew | exact (balloc (Below.refl _ _) _).drew | exact rstep (by assumption) (by assumption) | exact balloc (by assumption) _ | exact balloc (balloc (by assumption) _) _)) (fun hHeld => ?_)
          clear hK K
          simp only [List.setIfInBounds_toArray, List.set_cons_zero, List.set_cons_succ]
          refine wpAnyH_ready (rs := [5]) (by as_aux_lemma => kernel_rfl) (by simp) ?_
          refine AllReadyH.cons (o := { dst := some 6, op := Op.alloc 44, type := 0, pos := "ref.go:56", after := #[], guard := none }) rfl (fun K hK => ?_) (by exact AllReadyH.nil)
          go_simp
          refine hK.out _ _ (by (try dsimp only); (first | assumption | exact (Below.refl _ _).drew | exact (balloc (Below.refl _ _) _).drew | exact rstep (by assumption) (by assumption) | exact balloc (by assumption) _ | exact balloc (balloc (by assumption) _) _)) (fun hHeld => ?_)
          clear hK K
          simp only [List.setIfInBounds_toArray, List.set_cons_zero, List.set_cons_succ]
          refine rest _ _ _ ⟨?_, ?_, ?_, ?_, ?_, hHeld⟩
          · (rw [byC_zero]; repeat (first | exact Blk.new _ _ _ | exact Blk.newS _ _ _ _ | with_reducible refine Blk.drewR ?_ | with_reducible refine Blk.alloc ?_ _ | refine Blk.keep ?_ hk3 | refine Blk.keep ?_ hk1))
          · (rw [byC_zero]; repeat (first | exact Blk.new _ _ _ | exact Blk.newS _ _ _ _ | with_reducible refine Blk.drewR ?_ | with_reducible refine Blk.alloc ?_ _ | refine Blk.keep ?_ hk3 | refine Blk.keep ?_ hk1))
          · (have e1 := hk1.size; have e3 := hk3.size; first | (simp only [World.size_drew'] at e1 e3 ⊢; omega) | (simp only [World.size_alloc, World.size_drew'] at e1 e3 ⊢; omega))
          · (have e1 := hk1.size; have e3 := hk3.size; first | (simp only [World.size_drew'] at e1 e3 ⊢; omega) | (simp only [World.size_alloc, World.size_drew'] at e1 e3 ⊢; omega))
          · (have e1 := hk1.size; have e3 := hk3.size; first | (simp only [World.size_drew'] at e1 e3 ⊢; omega) | (simp only [World.size_alloc, World.size_drew'] at e1 e3 ⊢; omega))
        refine AllReadyH.cons (o := { dst := some 6, op := Op.alloc 44, type := 0, pos := "ref.go:56", after := #[], guard := none }) rfl (fun K hK => ?_) (by exact AllReadyH.nil)
        go_simp
        refine hK.out _ _ (by (try dsimp only); (first | assumption | exact (Below.refl _ _).drew | exact (balloc (Below.refl _ _) _).drew | exact rstep (by assumption) (by assumption) | exact balloc (by assumption) _ | exact balloc (balloc (by assumption) _) _)) (fun hHeld => ?_)
        clear hK K
        simp only [List.setIfInBounds_toArray, List.set_cons_zero, List.set_cons_succ]
        refine wpAnyH_ready (rs := [3]) (by as_aux_lemma => kernel_rfl) (by simp) ?_
        refine AllReadyH.cons (o := { dst := some 14, op := Op.call { callee := Callee.value (Operand.func 21), args := #[Operand.tmp 13], argTypes := #[24] }, type := 44, pos := "ref.go:56", after := #[{ on := 2, ground := Ground.data }, { on := 1, ground := Ground.chain }], guard := none }) rfl (fun K hK => ?_) (by exact AllReadyH.nil)
        go_simp
        (go_at_call 21; refine (rbytes_any _ _).mono ?_; rintro e wk3 ⟨rfl, hk3⟩)
        refine hK.out _ _ (by (try dsimp only); (first | assumption | exact (Below.refl _ _).drew | exact (balloc (Below.refl _ _) _).drew | exact rstep (by assumption) (by assumption) | exact balloc (by assumption) _ | exact balloc (balloc (by assumption) _) _)) (fun hHeld => ?_)
        clear hK K
        simp only [List.setIfInBounds_toArray, List.set_cons_zero, List.set_cons_succ]
        refine rest _ _ _ ⟨?_, ?_, ?_, ?_, ?_, hHeld⟩
        · (rw [byC_zero]; repeat (first | exact Blk.new _ _ _ | exact Blk.newS _ _ _ _ | with_reducible refine Blk.drewR ?_ | with_reducible refine Blk.alloc ?_ _ | refine Blk.keep ?_ hk3 | refine Blk.keep ?_ hk1))
        · (rw [byC_zero]; repeat (first | exact Blk.new _ _ _ | exact Blk.newS _ _ _ _ | with_reducible refine Blk.drewR ?_ | with_reducible refine Blk.alloc ?_ _ | refine Blk.keep ?_ hk3 | refine Blk.keep ?_ hk1))
        · (have e1 := hk1.size; have e3 := hk3.size; first | (simp only [World.size_drew'] at e1 e3 ⊢; omega) | (simp only [World.size_alloc, World.size_drew'] at e1 e3 ⊢; omega))
        · (have e1 := hk1.size; have e3 := hk3.size; first | (simp only [World.size_drew'] at e1 e3 ⊢; omega) | (simp only [World.size_alloc, World.size_drew'] at e1 e3 ⊢; omega))
        · (have e1 := hk1.size; have e3 := hk3.size; first | (simp only [World.size_drew'] at e1 e3 ⊢; omega) | (simp only [World.size_alloc, World.size_drew'] at e1 e3 ⊢; omega))
      refine AllReadyH.cons (o := { dst := some 6, op := Op.alloc 44, type := 0, pos := "ref.go:56", after := #[], guard := none }) rfl (fun K hK => ?_) (by exact AllReadyH.nil)
      go_simp
      refine hK.out _ _ (by (try dsimp only); (first | assumption | exact (Below.refl _ _).drew | exact (balloc (Below.refl _ _) _).drew | exact rstep (by assumption) (by assumption) | exact balloc (by assumption) _ | exact balloc (balloc (by assumption) _) _)) (fun hHeld => ?_)
      clear hK K
      simp only [List.setIfInBounds_toArray, List.set_cons_zero, List.set_cons_succ]
      refine wpAnyH_ready (rs := [1]) (by as_aux_lemma => kernel_rfl) (by simp) ?_
      refine AllReadyH.cons (o := { dst := some 12, op := Op.call { callee := Callee.value (Operand.func 21), args := #[Operand.tmp 11], argTypes := #[24] }, type := 44, pos := "ref.go:56", after := #[{ on := 0, ground := Ground.data }], guard := none }) rfl (fun K hK => ?_) (by exact AllReadyH.nil)
      go_simp
      (go_at_call 21; refine (rbytes_any _ _).mono ?_; rintro e wk1 ⟨rfl, hk1⟩)
      refine hK.out _ _ (by (try dsimp only); (first | assumption | exact (Below.refl _ _).drew | exact (balloc (Below.refl _ _) _).drew | exact rstep (by assumption) (by assumption) | exact balloc (by assumption) _ | exact balloc (balloc (by assumption) _) _)) (fun hHeld => ?_)
      clear hK K
      simp only [List.setIfInBounds_toArray, List.set_cons_zero, List.set_cons_succ]
      refine wpAnyH_ready (rs := [3]) (by as_aux_lemma => kernel_rfl) (by simp) ?_
      refine AllReadyH.cons (o := { dst := some 14, op := Op.call { callee := Callee.value (Operand.func 21), args := #[Operand.tmp 13], argTypes := #[24] }, type := 44, pos := "ref.go:56", after := #[{ on := 2, ground := Ground.data }, { on := 1, ground := Ground.chain }], guard := none }) rfl (fun K hK => ?_) (by exact AllReadyH.nil)
      go_simp
      (go_at_call 21; refine (rbytes_any _ _).mono ?_; rintro e wk3 ⟨rfl, hk3⟩)
      refine hK.out _ _ (by (try dsimp only); (first | assumption | exact (Below.refl _ _).drew | exact (balloc (Below.refl _ _) _).drew | exact rstep (by assumption) (by assumption) | exact balloc (by assumption) _ | exact balloc (balloc (by assumption) _) _)) (fun hHeld => ?_)
      clear hK K
      simp only [List.setIfInBounds_toArray, List.set_cons_zero, List.set_cons_succ]
      refine rest _ _ _ ⟨?_, ?_, ?_, ?_, ?_, hHeld⟩
      · (rw [byC_zero]; repeat (first | exact Blk.new _ _ _ | exact Blk.newS _ _ _ _ | with_reducible refine Blk.drewR ?_ | with_reducible refine Blk.alloc ?_ _ | refine Blk.keep ?_ hk3 | refine Blk.keep ?_ hk1))
      · (rw [byC_zero]; repeat (first | exact Blk.new _ _ _ | exact Blk.newS _ _ _ _ | with_reducible refine Blk.drewR ?_ | with_reducible refine Blk.alloc ?_ _ | refine Blk.keep ?_ hk3 | refine Blk.keep ?_ hk1))
      · (have e1 := hk1.size; have e3 := hk3.size; first | (simp only [World.size_drew'] at e1 e3 ⊢; omega) | (simp only [World.size_alloc, World.size_drew'] at e1 e3 ⊢; omega))
      · (have e1 := hk1.size; have e3 := hk3.size; first | (simp only [World.size_drew'] at e1 e3 ⊢; omega) | (simp only [World.size_alloc, World.size_drew'] at e1 e3 ⊢; omega))
      · (have e1 := hk1.size; have e3 := hk3.size; first | (simp only [World.size_drew'] at e1 e3 ⊢; omega) | (simp only [World.size_alloc, World.size_drew'] at e1 e3 ⊢; omega))
    refine AllReadyH.cons (o := { dst := some 6, op := Op.alloc 44, type := 0, pos := "ref.go:56", after := #[], guard := none }) rfl (fun K hK => ?_) (by exact AllReadyH.nil)
    go_simp
    refine hK.out _ _ (by (try dsimp only); (first | assumption | exact (Below.refl _ _).drew | exact (balloc (Below.refl _ _) _).drew | exact rstep (by assumption) (by assumption) | exact balloc (by assumption) _ | exact balloc (balloc (by assumption) _) _)) (fun hHeld => ?_)
    clear hK K
    simp only [List.setIfInBounds_toArray, List.set_cons_zero, List.set_cons_succ]
    refine wpAnyH_ready (rs := [1, 4]) (by as_aux_lemma => kernel_rfl) (by simp) ?_
    refine AllReadyH.cons (o := { dst := some 12, op := Op.call { callee := Callee.value (Operand.func 21), args := #[Operand.tmp 11], argTypes := #[24] }, type := 44, pos := "ref.go:56", after := #[{ on := 0, ground := Ground.data }], guard := none }) rfl (fun K hK => ?_) ?_
    · go_simp
      (go_at_call 21; refine (rbytes_any _ _).mono ?_; rintro e wk1 ⟨rfl, hk1⟩)
      refine hK.out _ _ (by (try dsimp only); (first | assumption | exact (Below.refl _ _).drew | exact (balloc (Below.refl _ _) _).drew | exact rstep (by assumption) (by assumption) | exact balloc (by assumption) _ | exact balloc (balloc (by assumption) _) _)) (fun hHeld => ?_)
      clear hK K
      simp only [List.setIfInBounds_toArray, List.set_cons_zero, List.set_cons_succ]
      refine wpAnyH_ready (rs := [3, 4]) (by as_aux_lemma => kernel_rfl) (by simp) ?_
      refine AllReadyH.cons (o := { dst := some 14, op := Op.call { callee := Callee.value (Operand.func 21), args := #[Operand.tmp 13], argTypes := #[24] }, type := 44, pos := "ref.go:56", after := #[{ on := 2, ground := Ground.data }, { on := 1, ground := Ground.chain }], guard := none }) rfl (fun K hK => ?_) ?_
      · go_simp
        (go_at_call 21; refine (rbytes_any _ _).mono ?_; rintro e wk3 ⟨rfl, hk3⟩)
        refine hK.out _ _ (by (try dsimp only); (first | assumption | exact (Below.refl _ _).drew | exact (balloc (Below.refl _ _) _).drew | exact rstep (by assumption) (by assumption) | exact balloc (by assumption) _ | exact balloc (balloc (by assumption) _) _)) (fun hHeld => ?_)
        clear hK K
        simp only [List.setIfInBounds_toArray, List.set_cons_zero, List.set_cons_succ]
        refine wpAnyH_ready (rs := [4]) (by as_aux_lemma => kernel_rfl) (by simp) ?_
        refine AllReadyH.cons (o := { dst := some 5, op := Op.alloc 44, type := 0, pos := "ref.go:56", after := #[], guard := none }) rfl (fun K hK => ?_) (by exact AllReadyH.nil)
        go_simp
        refine hK.out _ _ (by (try dsimp only); (first | assumption | exact (Below.refl _ _).drew | exact (balloc (Below.refl _ _) _).drew | exact rstep (by assumption) (by assumption) | exact balloc (by assumption) _ | exact balloc (balloc (by assumption) _) _)) (fun hHeld => ?_)
        clear hK K
        simp only [List.setIfInBounds_toArray, List.set_cons_zero, List.set_cons_succ]
        refine rest _ _ _ ⟨?_, ?_, ?_, ?_, ?_, hHeld⟩
        · (rw [byC_zero]; repeat (first | exact Blk.new _ _ _ | exact Blk.newS _ _ _ _ | with_reducible refine Blk.drewR ?_ | with_reducible refine Blk.alloc ?_ _ | refine Blk.keep ?_ hk3 | refine Blk.keep ?_ hk1))
        · (rw [byC_zero]; repeat (first | exact Blk.new _ _ _ | exact Blk.newS _ _ _ _ | with_reducible refine Blk.drewR ?_ | with_reducible refine Blk.alloc ?_ _ | refine Blk.keep ?_ hk3 | refine Blk.keep ?_ hk1))
        · (have e1 := hk1.size; have e3 := hk3.size; first | (simp only [World.size_drew'] at e1 e3 ⊢; omega) | (simp only [World.size_alloc, World.size_drew'] at e1 e3 ⊢; omega))
        · (have e1 := hk1.size; have e3 := hk3.size; first | (simp only [World.size_drew'] at e1 e3 ⊢; omega) | (simp only [World.size_alloc, World.size_drew'] at e1 e3 ⊢; omega))
        · (have e1 := hk1.size; have e3 := hk3.size; first | (simp only [World.size_drew'] at e1 e3 ⊢; omega) | (simp only [World.size_alloc, World.size_drew'] at e1 e3 ⊢; omega))
      refine AllReadyH.cons (o := { dst := some 5, op := Op.alloc 44, type := 0, pos := "ref.go:56", after := #[], guard := none }) rfl (fun K hK => ?_) (by exact AllReadyH.nil)
      go_simp
      refine hK.out _ _ (by (try dsimp only); (first | assumption | exact (Below.refl _ _).drew | exact (balloc (Below.refl _ _) _).drew | exact rstep (by assumption) (by assumption) | exact balloc (by assumption) _ | exact balloc (balloc (by assumption) _) _)) (fun hHeld => ?_)
      clear hK K
      simp only [List.setIfInBounds_toArray, List.set_cons_zero, List.set_cons_succ]
      refine wpAnyH_ready (rs := [3]) (by as_aux_lemma => kernel_rfl) (by simp) ?_
      refine AllReadyH.cons (o := { dst := some 14, op := Op.call { callee := Callee.value (Operand.func 21), args := #[Operand.tmp 13], argTypes := #[24] }, type := 44, pos := "ref.go:56", after := #[{ on := 2, ground := Ground.data }, { on := 1, ground := Ground.chain }], guard := none }) rfl (fun K hK => ?_) (by exact AllReadyH.nil)
      go_simp
      (go_at_call 21; refine (rbytes_any _ _).mono ?_; rintro e wk3 ⟨rfl, hk3⟩)
      refine hK.out _ _ (by (try dsimp only); (first | assumption | exact (Below.refl _ _).drew | exact (balloc (Below.refl _ _) _).drew | exact rstep (by assumption) (by assumption) | exact balloc (by assumption) _ | exact balloc (balloc (by assumption) _) _)) (fun hHeld => ?_)
      clear hK K
      simp only [List.setIfInBounds_toArray, List.set_cons_zero, List.set_cons_succ]
      refine rest _ _ _ ⟨?_, ?_, ?_, ?_, ?_, hHeld⟩
      · (rw [byC_zero]; repeat (first | exact Blk.new _ _ _ | exact Blk.newS _ _ _ _ | with_reducible refine Blk.drewR ?_ | with_reducible refine Blk.alloc ?_ _ | refine Blk.keep ?_ hk3 | refine Blk.keep ?_ hk1))
      · (rw [byC_zero]; repeat (first | exact Blk.new _ _ _ | exact Blk.newS _ _ _ _ | with_reducible refine Blk.drewR ?_ | with_reducible refine Blk.alloc ?_ _ | refine Blk.keep ?_ hk3 | refine Blk.keep ?_ hk1))
      · (have e1 := hk1.size; have e3 := hk3.size; first | (simp only [World.size_drew'] at e1 e3 ⊢; omega) | (simp only [World.size_alloc, World.size_drew'] at e1 e3 ⊢; omega))
      · (have e1 := hk1.size; have e3 := hk3.size; first | (simp only [World.size_drew'] at e1 e3 ⊢; omega) | (simp only [World.size_alloc, World.size_drew'] at e1 e3 ⊢; omega))
      · (have e1 := hk1.size; have e3 := hk3.size; first | (simp only [World.size_drew'] at e1 e3 ⊢; omega) | (simp only [World.size_alloc, World.size_drew'] at e1 e3 ⊢; omega))
    refine AllReadyH.cons (o := { dst := some 5, op := Op.alloc 44, type := 0, pos := "ref.go:56", after := #[], guard := none }) rfl (fun K hK => ?_) (by exact AllReadyH.nil)
    go_simp
    refine hK.out _ _ (by (try dsimp only); (first | assumption | exact (Below.refl _ _).drew | exact (balloc (Below.refl _ _) _).drew | exact rstep (by assumption) (by assumption) | exact balloc (by assumption) _ | exact balloc (balloc (by assumption) _) _)) (fun hHeld => ?_)
    clear hK K
    simp only [List.setIfInBounds_toArray, List.set_cons_zero, List.set_cons_succ]
    refine wpAnyH_ready (rs := [1]) (by as_aux_lemma => kernel_rfl) (by simp) ?_
    refine AllReadyH.cons (o := { dst := some 12, op := Op.call { callee := Callee.value (Operand.func 21), args := #[Operand.tmp 11], argTypes := #[24] }, type := 44, pos := "ref.go:56", after := #[{ on := 0, ground := Ground.data }], guard := none }) rfl (fun K hK => ?_) (by exact AllReadyH.nil)
    go_simp
    (go_at_call 21; refine (rbytes_any _ _).mono ?_; rintro e wk1 ⟨rfl, hk1⟩)
    refine hK.out _ _ (by (try dsimp only); (first | assumption | exact (Below.refl _ _).drew | exact (balloc (Below.refl _ _) _).drew | exact rstep (by assumption) (by assumption) | exact balloc (by assumption) _ | exact balloc (balloc (by assumption) _) _)) (fun hHeld => ?_)
    clear hK K
    simp only [List.setIfInBounds_toArray, List.set_cons_zero, List.set_cons_succ]
    refine wpAnyH_ready (rs := [3]) (by as_aux_lemma => kernel_rfl) (by simp) ?_
    refine AllReadyH.cons (o := { dst := some 14, op := Op.call { callee := Callee.value (Operand.func 21), args := #[Operand.tmp 13], argTypes := #[24] }, type := 44, pos := "ref.go:56", after := #[{ on := 2, ground := Ground.data }, { on := 1, ground := Ground.chain }], guard := none }) rfl (fun K hK => ?_) (by exact AllReadyH.nil)
    go_simp
    (go_at_call 21; refine (rbytes_any _ _).mono ?_; rintro e wk3 ⟨rfl, hk3⟩)
    refine hK.out _ _ (by (try dsimp only); (first | assumption | exact (Below.refl _ _).drew | exact (balloc (Below.refl _ _) _).drew | exact rstep (by assumption) (by assumption) | exact balloc (by assumption) _ | exact balloc (balloc (by assumption) _) _)) (fun hHeld => ?_)
    clear hK K
    simp only [List.setIfInBounds_toArray, List.set_cons_zero, List.set_cons_succ]
    refine rest _ _ _ ⟨?_, ?_, ?_, ?_, ?_, hHeld⟩
    · (rw [byC_zero]; repeat (first | exact Blk.new _ _ _ | exact Blk.newS _ _ _ _ | with_reducible refine Blk.drewR ?_ | with_reducible refine Blk.alloc ?_ _ | refine Blk.keep ?_ hk3 | refine Blk.keep ?_ hk1))
    · (rw [byC_zero]; repeat (first | exact Blk.new _ _ _ | exact Blk.newS _ _ _ _ | with_reducible refine Blk.drewR ?_ | with_reducible refine Blk.alloc ?_ _ | refine Blk.keep ?_ hk3 | refine Blk.keep ?_ hk1))
    · (have e1 := hk1.size; have e3 := hk3.size; first | (simp only [World.size_drew'] at e1 e3 ⊢; omega) | (simp only [World.size_alloc, World.size_drew'] at e1 e3 ⊢; omega))
    · (have e1 := hk1.size; have e3 := hk3.size; first | (simp only [World.size_drew'] at e1 e3 ⊢; omega) | (simp only [World.size_alloc, World.size_drew'] at e1 e3 ⊢; omega))
    · (have e1 := hk1.size; have e3 := hk3.size; first | (simp only [World.size_drew'] at e1 e3 ⊢; omega) | (simp only [World.size_alloc, World.size_drew'] at e1 e3 ⊢; omega))
  case hrest =>
    intro X Y wz ⟨z1, z2, z3, z4, z5, z6⟩
    refine wpAnyH_ready (rs := [6]) (by as_aux_lemma => kernel_rfl) (by simp) ?_
    refine AllReadyH.cons (o := { dst := none, op := Op.store 44 (Operand.tmp 5) (Operand.tmp 12), type := 0, pos := "ref.go:56", after := #[{ on := 4, ground := Ground.data }, { on := 1, ground := Ground.data }, { on := 3, ground := Ground.chain }, { on := 0, ground := Ground.phase }, { on := 1, ground := Ground.phase }, { on := 2, ground := Ground.textOnly Departure.lateStores }, { on := 3, ground := Ground.textOnly Departure.lateStoresUnsure }, { on := 4, ground := Ground.phase }, { on := 5, ground := Ground.phase }], guard := none }) rfl (fun K hK => ?_) (by exact AllReadyH.nil)
    rw [if_pos (by rfl)]
    refine wp_store_mid 44 (.tmp 5) (.tmp 12) rfl X 0 (byC a 32) rfl rfl (z1.there _ (by rw [byC_size, byC_size]; exact Nat.le_refl _)) (HI _).out (byC_one a 32) (hK.out _ _ (below_setCells' z4 _ 0 wz z6) (fun hHeld => ?_))
    have z7 := blk_setCells z1 (byC a 32) (by rw [byC_size, byC_size]) (byC_one a 32)
    have z8 := blk_setCells_far z2 X 0 (byC a 32).toList z3.symm
    clear z1 z2 z6
    generalize wz.setCells X 0 (byC a 32).toList = wy at z7 z8 hHeld ⊢
    clear hK K
    simp only [Act.put, List.setIfInBounds_toArray, List.set_cons_zero, List.set_cons_succ]
    refine wpAnyH_ready (rs := [7]) (by as_aux_lemma => kernel_rfl) (by simp) ?_
    refine AllReadyH.cons (o := { dst := none, op := Op.store 44 (Operand.tmp 6) (Operand.tmp 14), type := 0, pos := "ref.go:56", after := #[{ on := 5, ground := Ground.data }, { on := 3, ground := Ground.data }, { on := 6, ground := Ground.chain }, { on := 0, ground := Ground.phase }, { on := 1, ground := Ground.phase }, { on := 2, ground := Ground.phase }, { on := 3, ground := Ground.phase }, { on := 4, ground := Ground.phase }, { on := 5, ground := Ground.phase }, { on := 6, ground := Ground.phase }], guard := none }) rfl (fun K hK => ?_) (by exact AllReadyH.nil)
    rw [if_pos (by rfl)]
    refine wp_store_mid 44 (.tmp 6) (.tmp 14) rfl Y 0 (byC b 32) rfl rfl (z8.there _ (by rw [byC_size, byC_size]; exact Nat.le_refl _)) (HI _).out (byC_one b 32) (hK.out _ _ (below_setCells' z5 _ 0 wy hHeld) (fun hHeld => ?_))
    have z9 := blk_setCells z8 (byC b 32) (by rw [byC_size, byC_size]) (byC_one b 32)
    have z10 := blk_setCells_far z7 Y 0 (byC b 32).toList z3
    clear z7 z8
    generalize wy.setCells Y 0 (byC b 32).toList = wx at z9 z10 hHeld ⊢
    clear hK K
    simp only [Act.put, List.setIfInBounds_toArray, List.set_cons_zero, List.set_cons_succ]
    refine wpAnyH_done (by as_aux_lemma => kernel_rfl) ?_ _
    have hR := HR.out.keep hHeld
    have hB := bstep HW.out hHeld
    have X1 : w.heap.size + 1 + 1 ≠ X := by omega
    have Y1 : w.heap.size + 1 + 1 ≠ Y := by omega
    have hZX := z10.lt
    have hZY := z9.lt
    have hZR := hR.lt
    have hZs := hB.size
    have hZ := Blk.new wx 44 (byC 0 0)
    have z9' := z9.alloc (.cells (byC 0 0) 44)
    have z10' := z10.alloc (.cells (byC 0 0) 44)
    have hR' := hR.alloc (.cells (byC 0 0) 44)
    have hB' := balloc hB (.cells (byC 0 0) 44)
    rw [byC_zero 0] at hZ z9' z10' hR' hB'
    rw [← byC_zero 0] at hZ
    have HZ := Lib.hid hZ
    have H9 := Lib.hid z9'
    have H10 := Lib.hid z10'
    have HR' := Lib.hid hR'
    clear hHeld cA0 cA1 cA2 cA3 cB0 cB1 cB2 cB3 z4 z5 hRl HR HW hZ z9 z10 z9' z10' hR hR' hB
    obtain ⟨Z, hZe⟩ : ∃ Z, wx.heap.size = Z := ⟨_, rfl⟩
    rw [hZe] at HZ hZX hZY hZR hZs
    go_wp2_with fail
    go_loopw [8] (fun i wr => ∃ n : Nat, n ≤ 32 ∧ i = .int .i64 n ∧ Blk wr X 44 (byC a 32) ∧ Blk wr Y 44 (byC b 32) ∧ Blk wr Z 44 (byC (a % 256 ^ n * b) 32) ∧ Blk wr (w.heap.size + 1 + 1) 24 (Wc 0) ∧ Below w.heap.size w wr) (fun i _ => 32 - (intOf i).toNat)
    case atStart => exact ⟨0, by omega, rfl, H10.out, H9.out, by rw [Nat.pow_zero, Nat.mod_one, Nat.zero_mul]; rw [byC_nought]; exact HZ.out, HR'.out, hB'⟩
    case round =>
      obtain ⟨n, hn, rfl, hx, hy, hz, hr, hB⟩ := hrel
      clear HZ H9 H10 HR' hB'
      by_cases hlt : n < 32
      · have hd := byA_lt a n
        obtain ⟨S, hS⟩ : ∃ S, a % 256 ^ n * b = S := ⟨_, rfl⟩
        obtain ⟨d, hdd⟩ : ∃ d, byA a n = d := ⟨_, rfl⟩
        have hx0 : ∀ wi, Blk wi X 44 (byC a 32) → wi.cell? ⟨X, 31 - n, none⟩ = some (.int .u8 ((d : Nat) : Int)) := fun wi h => (cell_of_row wi _ _ _ _ _ h).trans (by rw [byC_get _ _ _ (by omega), if_pos (by omega), show 31 - (31 - n) = n by omega, hdd])
        rw [hS] at hz
        rw [hdd] at hd
        have hnext : S + 256 ^ n * (d * b) = a % 256 ^ (n + 1) * b := by rw [← hS, ← hdd, rows_next]
        have HX0 := Lib.hid hx
        have HY0 := Lib.hid hy
        have HZ0 := Lib.hid hz
        have HR0 := Lib.hid hr
        have HN := Lib.hid hnext
        clear hx hy hz hr hnext hS hdd
        go_wp2_with fail
        go_loopw [9, 10] (fun c k wi => ∃ m : Nat, m ≤ 32 - n ∧ c = .int .i64 (cyM S d b n m) ∧ k = .int .i64 m ∧ Blk wi X 44 (byC a 32) ∧ Blk wi Y 44 (byC b 32) ∧ Blk wi Z 44 (adC S (256 ^ n * (d * b)) (n + m)) ∧ Blk wi (w.heap.size + 1 + 1) 24 (Wc 0) ∧ Below w.heap.size w wi) (fun _ k _ => 32 - (intOf k).toNat)
        case atStart => exact ⟨0, by omega, by rw [cyM_zero]; rfl, rfl, HX0.out, HY0.out, by rw [Nat.add_zero, adC_low]; exact HZ0.out, HR0.out, hB⟩
        case round =>
          obtain ⟨m, hm, rfl, rfl, hx, hy, hz, hr, hB⟩ := hrel
          clear HX0 HY0 HZ0 HR0
          by_cases hlm : m < 32 - n
          · have cx := hx0 wr hx
            have cy : wr.cell? ⟨Y, 31 - m, none⟩ = some (.int .u8 ((byA b m : Nat) : Int)) := (cell_of_row wr _ _ _ _ _ hy).trans (by rw [byC_get _ _ _ (by omega), if_pos (by omega), show 31 - (31 - m) = m by omega])
            have cz : wr.cell? ⟨Z, 31 - n - m, none⟩ = some (.int .u8 ((byA S (n + m) : Nat) : Int)) := (cell_of_row wr _ _ _ _ _ hz).trans (by rw [adC_get _ _ _ _ (by omega), if_neg (by omega), show 31 - (31 - n - m) = n + m by omega])
            have hf := frozen_of_row wr _ (31 - n - m) _ _ hz
            have HX1 := Lib.hid hx
            have HY1 := Lib.hid hy
            have HZ1 := Lib.hid hz
            have HR1 := Lib.hid hr
            clear hx hy hz hr hx0
            have b1 := byA_lt S (n + m)
            have b2 := byA_lt b m
            have b3 := cyM_lt S d b n m hd
            have b4 : d * byA b m ≤ 255 * 255 := Nat.mul_le_mul (by omega) (by omega)
            have HPD := Lib.hid (show ((d : Nat) : Int) * ((byA b m : Nat) : Int) = ((d * byA b m : Nat) : Int) by simp)
            have g0 : IntKind.i64.wrap ((n : Int) + (m : Int)) = (n : Int) + (m : Int) := IntWalk.i64_in _ (by omega)
            have g1 : (n : Int) + (m : Int) < 32 := by omega
            have g2 : IntKind.i64.wrap (31 - (n : Int)) = 31 - (n : Int) := IntWalk.i64_in _ (by omega)
            have g3 : IntKind.i64.wrap (31 - (n : Int) - (m : Int)) = 31 - (n : Int) - (m : Int) := IntWalk.i64_in _ (by omega)
            have g4 : (0 : Int) ≤ 31 - (n : Int) - (m : Int) := by omega
            have g5 : 31 - (n : Int) - (m : Int) < 32 := by omega
            have g6 : (31 - (n : Int) - (m : Int)).toNat = 31 - n - m := by omega
            have g7 : (0 : Int) ≤ 31 - (n : Int) := by omega
            have g8 : 31 - (n : Int) < 32 := by omega
            have g9 : (31 - (n : Int)).toNat = 31 - n := by omega
            have g10 : IntKind.i64.wrap (31 - (m : Int)) = 31 - (m : Int) := IntWalk.i64_in _ (by omega)
            have g11 : (0 : Int) ≤ 31 - (m : Int) := by omega
            have g12 : 31 - (m : Int) < 32 := by omega
            have g13 : (31 - (m : Int)).toNat = 31 - m := by omega
            have g14 : IntKind.i64.wrap ((byA S (n + m) : Nat) : Int) = ((byA S (n + m) : Nat) : Int) := IntWalk.i64_in _ (by omega)
            have g15 : IntKind.i64.wrap ((byA b m : Nat) : Int) = ((byA b m : Nat) : Int) := IntWalk.i64_in _ (by omega)
            have g16 : IntKind.i64.wrap ((d : Nat) : Int) = ((d : Nat) : Int) := IntWalk.i64_in _ (by omega)
            have g17 : IntKind.i64.wrap (((d : Nat) : Int) * ((byA b m : Nat) : Int)) = ((d : Nat) : Int) * ((byA b m : Nat) : Int) := by rw [HPD.out]; exact IntWalk.i64_in _ (by omega)
            have g18 : IntKind.i64.wrap (((cyM S d b n m : Nat) : Int) + ((byA S (n + m) : Nat) : Int)) = ((cyM S d b n m : Nat) : Int) + ((byA S (n + m) : Nat) : Int) := IntWalk.i64_in _ (by omega)
            have g19 : IntKind.i64.wrap (((cyM S d b n m : Nat) : Int) + ((byA S (n + m) : Nat) : Int) + ((d : Nat) : Int) * ((byA b m : Nat) : Int)) = ((cyM S d b n m : Nat) : Int) + ((byA S (n + m) : Nat) : Int) + ((d : Nat) : Int) * ((byA b m : Nat) : Int) := by rw [HPD.out]; exact IntWalk.i64_in _ (by omega)
            have g20 : (m : Int) ≤ 31 - (n : Int) := by omega
            have g21 : (n : Int) ≤ 31 := by omega
            have g22 : (m : Int) ≤ 31 := by omega
            go_wp2_with fail
            go_quiet (fail)
            all_goals go_wp2
            have hv : ((cyM S d b n m : Nat) : Int) + ((byA S (n + m) : Nat) : Int) + ((d : Nat) : Int) * ((byA b m : Nat) : Int) = ((cyM S d b n m + byA S (n + m) + d * byA b m : Nat) : Int) := by rw [HPD.out]; simp
            have hv1 : ((cyM S d b n m + byA S (n + m) + d * byA b m : Nat) : Int) % 256 = ((byA (S + 256 ^ n * (d * b)) (n + m) : Nat) : Int) := by rw [← byA_row]; exact (Int.natCast_emod _ _).symm
            have hv2 : ((cyM S d b n m + byA S (n + m) + d * byA b m : Nat) : Int) / 256 = ((cyM S d b n (m + 1) : Nat) : Int) := by rw [← cyM_succ]; exact (Int.natCast_ediv _ _).symm
            rw [hv, hv1, hv2]
            have G := grown_set' (grown_refl (wr.drewN nq) Z) (31 - n - m) (.int .u8 ((byA (S + 256 ^ n * (d * b)) (n + m) : Nat) : Int))
            have h := heap_setCell_same (wr.drewN nq) Z (31 - n - m) _ _ (.int .u8 ((byA (S + 256 ^ n * (d * b)) (n + m) : Nat) : Int)) HZ1.out
            rw [show 31 - n - m = 31 - (n + m) by omega, adC_set S _ (n + m) (by omega)] at h
            rw [show 31 - n - m = 31 - (n + m) by omega] at G ⊢
            have hX2 := Blk.kept (X := wr.drewN nq) HX1.out G (by simp; omega)
            have hY2 := Blk.kept (X := wr.drewN nq) HY1.out G (by simp; omega)
            have hR2 := Blk.kept (X := wr.drewN nq) HR1.out G (by simp; omega)
            exact ⟨⟨m + 1, by omega, rfl, rfl, hX2, hY2, h, hR2, (below_drewN hB nq).setCell (p := ⟨Z, 31 - (n + m), none⟩) (by simp; omega) _⟩, by simp [intOf]; omega⟩
          · obtain rfl : m = 32 - n := by omega
            rw [show n + (32 - n) = 32 by omega, adC_all, HN.out] at hz
            have HX1 := Lib.hid hx
            have HY1 := Lib.hid hy
            have HZ1 := Lib.hid hz
            have HR1 := Lib.hid hr
            clear hx hy hz hr hx0
            have g0 : IntKind.i64.wrap ((n : Int) + ((32 - n : Nat) : Int)) = 32 := by rw [show (n : Int) + ((32 - n : Nat) : Int) = 32 by omega]; decide
            go_wp2
            exact ⟨⟨n + 1, by omega, rfl, HX1.out, HY1.out, HZ1.out, HR1.out, hB⟩, by simp [intOf]; omega⟩
      · obtain rfl : n = 32 := by omega
        have hz' : byC (a % 256 ^ 32 * b) 32 = byC (a * b) 32 := byC_congr (rows_all a b)
        rw [hz'] at hz
        have HZ1 := Lib.hid hz
        have HR := Lib.hid hr
        clear hx hy hz hr hz'
        have hu : Tryd.prog.underlying 44 = some (.array 32 5) := by kernel_rfl
        have HU := Lib.hid hu
        clear hu
        go_upto_region 13 with (fail)
        refine wp_region_lit (wpList_load_mid rfl 44 (.tmp 7) rfl Z 0 rfl (byC (a * b) 32).toList _ HZ1.out.rangeAt HU.out rfl (HI _).out ?_)
        go_wp2_with (go_at_call 25; refine (rfrom_any (a * b) _).mono ?_; rintro e wk ⟨rfl, hk⟩; have hr2 := HR.out.keep hk; have hB2 := bstep hB hk; have r0 := (cell_of_row wk _ 0 _ _ _ hr2).trans (wc_get 0 0 (by omega)); have r1 := (cell_of_row wk _ 1 _ _ _ hr2).trans (wc_get 0 1 (by omega)); have r2 := (cell_of_row wk _ 2 _ _ _ hr2).trans (wc_get 0 2 (by omega)); have r3 := (cell_of_row wk _ 3 _ _ _ hr2).trans (wc_get 0 3 (by omega)); have f0 := frozen_of_row wk _ 0 _ _ hr2; have f1 := frozen_of_row wk _ 1 _ _ hr2; have f2 := frozen_of_row wk _ 2 _ _ hr2; have f3 := frozen_of_row wk _ 3 _ _ hr2; clear hr2)
        exact bodyPost_ret (v := W (a * b)) (by simp [results, Tryd.results13, go_sem, r0, r1, r2, r3]) rfl ⟨rfl, (((hB2.setCell (p := ⟨w.heap.size + 1 + 1, 0, none⟩) (by simp; omega) _).setCell (p := ⟨w.heap.size + 1 + 1, 1, none⟩) (by simp; omega) _).setCell (p := ⟨w.heap.size + 1 + 1, 2, none⟩) (by simp; omega) _).setCell (p := ⟨w.heap.size + 1 + 1, 3, none⟩) (by simp; omega) _⟩

end Go.Proofs.YtidpekcegocjfaaDoor

/- split: numbers limb by limb, in plain numbers: what a whole product needs. -/
namespace Go.Proofs.YtidpekcegocjfaaDoor

/-- A number of limbs. -/
def valL (f : Nat → Nat) : Nat → Nat
  | 0 => 0
  | n + 1 => valL f n + f n * B64 ^ n
def updN (f : Nat → Nat) (k v : Nat) : Nat → Nat := fun i => if i = k then v else f i
theorem updN_same (f : Nat → Nat) (k v : Nat) : updN f k v k = v := if_pos rfl
theorem updN_ne (f : Nat → Nat) {i k : Nat} (v : Nat) (h : i ≠ k) : updN f k v i = f i := if_neg h
theorem updN_lt {f : Nat → Nat} {k v n : Nat} (hf : ∀ i, i < n → f i < B64) (hv : v < B64) : ∀ i, i < n → updN f k v i < B64 := fun i hi => by
  unfold updN; split
  · exact hv
  · exact hf i hi
theorem valL_upd_ge (f : Nat → Nat) (k v : Nat) : ∀ n, n ≤ k → valL (updN f k v) n = valL f n
  | 0, _ => rfl
  | n + 1, h => by
    unfold valL
    rw [valL_upd_ge f k v n (by omega), updN_ne f v (by omega)]
theorem valL_upd (f : Nat → Nat) (k v : Nat) : ∀ n, k < n → valL (updN f k v) n + f k * B64 ^ k = valL f n + v * B64 ^ k
  | 0, h => by omega
  | n + 1, h => by
    unfold valL
    by_cases e : k = n
    · subst e
      rw [valL_upd_ge f k v k (Nat.le_refl _), updN_same]; omega
    · have := valL_upd f k v n (by omega)
      rw [updN_ne f v (fun e' => e e'.symm)]; omega
theorem valL_lt (f : Nat → Nat) : ∀ n, (∀ i, i < n → f i < B64) → valL f n < B64 ^ n
  | 0, _ => by simp [valL]
  | n + 1, h => by
    have h1 := valL_lt f n (fun i hi => h i (by omega))
    have h2 := h n (by omega)
    unfold valL
    have h3 : (f n + 1) * B64 ^ n ≤ B64 * B64 ^ n := Nat.mul_le_mul_right _ h2
    rw [Nat.add_mul, Nat.one_mul] at h3
    rw [Nat.pow_succ, Nat.mul_comm _ B64]; omega
theorem valL_limb (f : Nat → Nat) : ∀ n, (∀ i, i < n → f i < B64) → ∀ k, k < n → valL f n / B64 ^ k % B64 = f k
  | 0, _, k, hk => by omega
  | n + 1, h, k, hk => by
    have h1 := valL_lt f n (fun i hi => h i (by omega))
    unfold valL
    by_cases e : k = n
    · subst e
      rw [Nat.add_mul_div_right _ _ (pow_pos' k), Nat.div_eq_of_lt h1, Nat.zero_add, Nat.mod_eq_of_lt (h k (by omega))]
    · have h2 := valL_limb f n (fun i hi => h i (by omega)) k (by omega)
      have e2 : f n * B64 ^ n = f n * B64 ^ (n - k - 1) * B64 * B64 ^ k := by
        rw [Nat.mul_assoc, Nat.mul_assoc, ← Nat.pow_succ', ← Nat.pow_add]; congr 2; omega
      rw [e2, Nat.add_mul_div_right _ _ (pow_pos' k), Nat.add_mul_mod_self_right]
      exact h2
theorem valL_zero : ∀ n, valL (fun _ => 0) n = 0
  | 0 => rfl
  | n + 1 => by unfold valL; rw [valL_zero n]; omega

/-- What is added in a step, its halves. -/
theorem limb_step (x over p q : Nat) (hx : x < B64) (ho : over < B64) (hp : p < B64) (hq : q < B64) :
    (x + (p * q % B64 + over) % B64) % B64 + (p * q / B64 + (p * q % B64 + over) / B64 + (x + (p * q % B64 + over) % B64) / B64) * B64 = x + over + p * q
    ∧ p * q / B64 + (p * q % B64 + over) / B64 + (x + (p * q % B64 + over) % B64) / B64 < B64 := by
  have e : (x + (p * q % B64 + over) % B64) % B64 + (p * q / B64 + (p * q % B64 + over) / B64 + (x + (p * q % B64 + over) % B64) / B64) * B64 = x + over + p * q := by
    have h1 := Nat.div_add_mod (p * q) B64
    have h2 := Nat.div_add_mod (p * q % B64 + over) B64
    have h3 := Nat.div_add_mod (x + (p * q % B64 + over) % B64) B64
    rw [Nat.add_mul, Nat.add_mul, Nat.mul_comm (p * q / B64), Nat.mul_comm ((p * q % B64 + over) / B64), Nat.mul_comm ((x + (p * q % B64 + over) % B64) / B64)]
    omega
  refine ⟨e, ?_⟩
  have h4 : p * q ≤ (B64 - 1) * (B64 - 1) := Nat.mul_le_mul (by omega) (by omega)
  have h5 : x + over + p * q < B64 * B64 := by unfold B64 at *; omega
  have h6 : (p * q / B64 + (p * q % B64 + over) / B64 + (x + (p * q % B64 + over) % B64) / B64) * B64 < B64 * B64 := by omega
  exact Nat.lt_of_mul_lt_mul_right h6

/-- The product under way: i rows are done, and j places of row i. -/
structure PRow (a b i j over : Nat) (f : Nat → Nat) : Prop where
  lt : ∀ k, k < 8 → f k < B64
  far : ∀ k, i + 4 ≤ k → f k = 0
  olt : over < B64
  sum : valL f 8 + over * B64 ^ (i + j) = (a % B64 ^ i) * b + (a / B64 ^ i % B64) * (b % B64 ^ j) * B64 ^ i
theorem PRow.start (a b : Nat) : PRow a b 0 0 0 (fun _ => 0) :=
  ⟨fun _ _ => B64_pos, fun _ _ => rfl, B64_pos, by rw [valL_zero]; simp [Nat.mod_one]⟩
theorem PRow.step {a b i j over : Nat} {f : Nat → Nat} (h : PRow a b i j over f) (hi : i < 4) (hj : j < 4) :
    PRow a b i (j + 1) ((a / B64 ^ i % B64) * (b / B64 ^ j % B64) / B64 + ((a / B64 ^ i % B64) * (b / B64 ^ j % B64) % B64 + over) / B64 + (f (i + j) + ((a / B64 ^ i % B64) * (b / B64 ^ j % B64) % B64 + over) % B64) / B64)
      (updN f (i + j) ((f (i + j) + ((a / B64 ^ i % B64) * (b / B64 ^ j % B64) % B64 + over) % B64) % B64)) := by
  obtain ⟨e, hlt⟩ := limb_step (f (i + j)) over (a / B64 ^ i % B64) (b / B64 ^ j % B64) (h.lt _ (by omega)) h.olt (Nat.mod_lt _ B64_pos) (Nat.mod_lt _ B64_pos)
  have hs := h.sum
  have hu := valL_upd f (i + j) ((f (i + j) + ((a / B64 ^ i % B64) * (b / B64 ^ j % B64) % B64 + over) % B64) % B64) 8 (by omega)
  refine ⟨updN_lt h.lt (Nat.mod_lt _ B64_pos), fun k hk => by rw [updN_ne f _ (by omega)]; exact h.far k hk, hlt, ?_⟩
  have hm := mod_succ' b j
  rw [hm]
  generalize a / B64 ^ i % B64 = p at *
  generalize b / B64 ^ j % B64 = q at *
  generalize hH : (f (i + j) + (p * q % B64 + over) % B64) % B64 = here at *
  generalize hO : p * q / B64 + (p * q % B64 + over) / B64 + (f (i + j) + (p * q % B64 + over) % B64) / B64 = over' at *
  have e1 : over' * B64 ^ (i + (j + 1)) = over' * B64 * B64 ^ (i + j) := by rw [← Nat.add_assoc, Nat.pow_succ, Nat.mul_comm _ B64, ← Nat.mul_assoc]
  have e2 : (here + over' * B64) * B64 ^ (i + j) = (f (i + j) + over + p * q) * B64 ^ (i + j) := by rw [e]
  have e3 : p * (b % B64 ^ j + B64 ^ j * q) * B64 ^ i = p * (b % B64 ^ j) * B64 ^ i + p * q * B64 ^ (i + j) := by
    rw [Nat.mul_add, Nat.add_mul, Nat.pow_add]; congr 1
    rw [Nat.mul_comm (B64 ^ j) q, ← Nat.mul_assoc, Nat.mul_assoc (p * q), Nat.mul_comm (B64 ^ j)]
  rw [Nat.add_mul, Nat.add_mul, Nat.add_mul] at e2
  rw [e1, e3]
  omega
theorem PRow.row {a b i over : Nat} {f : Nat → Nat} (h : PRow a b i 4 over f) (hi : i < 4) (hb : b < MM) : PRow a b (i + 1) 0 0 (updN f (i + 4) over) := by
  have hs := h.sum
  have hu := valL_upd f (i + 4) over 8 (by omega)
  rw [h.far (i + 4) (by omega), Nat.zero_mul, Nat.add_zero] at hu
  refine ⟨updN_lt h.lt h.olt, fun k hk => by rw [updN_ne f _ (by omega)]; exact h.far k (by omega), B64_pos, ?_⟩
  have e4 : b % B64 ^ 4 = b := Nat.mod_eq_of_lt hb
  rw [e4] at hs
  rw [hu, Nat.zero_mul, Nat.add_zero, Nat.pow_zero, Nat.mod_one, Nat.mul_zero, Nat.zero_mul, Nat.add_zero, hs, mod_succ' a i, Nat.add_mul]
  rw [Nat.mul_comm (B64 ^ i), Nat.mul_right_comm, Nat.add_zero]
theorem PRow.done {a b : Nat} {f : Nat → Nat} (h : PRow a b 4 0 0 f) (ha : a < MM) : ∀ k, k < 8 → f k = a * b / B64 ^ k % B64 := fun k hk => by
  have hs := h.sum
  have e4 : a % B64 ^ 4 = a := Nat.mod_eq_of_lt ha
  rw [Nat.zero_mul, Nat.add_zero, Nat.pow_zero, Nat.mod_one, Nat.mul_zero, Nat.zero_mul, Nat.add_zero, e4] at hs
  rw [← hs, valL_limb f 8 h.lt k hk]
end Go.Proofs.YtidpekcegocjfaaDoor

/- A range over an iterator that keeps cells of its own and goes on till its body leaves: what such an iterator owes, and what a loop over it comes to. -/
namespace Go.Proofs.YtidpekcegocjfaaDoor
open Go.RowKit Go.Shelf

/-- What is said abides whatever becomes of the blocks from B on. -/
def Abide {β : Type} (B : Nat) (J : β → World → Prop) : Prop := ∀ s X Y row, J s X → X.grownBy Y row → (∀ r, row = some r → B ≤ r) → J s Y
/-- The blocks from B on are as they were. -/
def Kept (B : Nat) (X Y : World) : Prop := X.heap.size ≤ Y.heap.size ∧ ∀ k, B ≤ k → k < X.heap.size → Y.heap[k]? = X.heap[k]?
theorem Kept.refl (B : Nat) (X : World) : Kept B X X := ⟨Nat.le_refl _, fun _ _ _ => rfl⟩
theorem Kept.trans {B : Nat} {X Y Z : World} (h : Kept B X Y) (k : Kept B Y Z) : Kept B X Z := ⟨Nat.le_trans h.1 k.1, fun i hB hi => (k.2 i hB (Nat.lt_of_lt_of_le hi h.1)).trans (h.2 i hB hi)⟩
theorem Kept.mono {B C : Nat} {X Y : World} (h : Kept B X Y) (hB : B ≤ C) : Kept C X Y := ⟨h.1, fun i hi hx => h.2 i (Nat.le_trans hB hi) hx⟩
theorem Kept.below {X Y : World} (B : Nat) (h : Below X.heap.size X Y) : Kept B X Y := ⟨h.size, fun i _ hi => h.block i hi⟩
theorem Kept.alloc (B : Nat) (X : World) (o : Obj) : Kept B X (X.alloc o) := Kept.below B ((Below.refl _ X).alloc (Nat.le_refl _) o)
theorem Kept.grown {B : Nat} {X Y : World} {row : Option Nat} (h : X.grownBy Y row) (hr : ∀ r, row = some r → r < B) : Kept B X Y := ⟨h.size, fun i hB hi => h.block i hi (fun e => by have := hr i e.symm; omega)⟩
theorem Kept.set {B : Nat} (X : World) {p : Addr} (hp : p.block < B) (v : Value) : Kept B X (X.setCell p v) := ⟨by simp [World.setCell], fun i hB _ => Below.heap_setCell X p v i (by omega)⟩
theorem Kept.put {B : Nat} (X : World) {l : Nat} (o : Obj) (hl : l < B) : Kept B X (X.putObj l o) := ⟨by simp, fun i hB _ => World.putObj_heap_other (by omega)⟩
theorem below_put {n₀ : Nat} (X : World) {l : Nat} (o : Obj) (hl : n₀ ≤ l) : Below n₀ X (X.putObj l o) := ⟨rfl, rfl, rfl, by simp, fun i hi => World.putObj_heap_other (by omega)⟩
theorem grown_alloc (X : World) (o : Obj) : X.grownBy (X.alloc o) none := ⟨rfl, rfl, rfl, by simp, fun i hi _ => Below.heap_alloc X o i hi⟩
theorem grown_new {X Y : World} (h : Below X.heap.size X Y) : X.grownBy Y none := ⟨h.os, h.tape, h.output, h.size, fun i hi _ => h.block i hi⟩
theorem Abide.alloc {β : Type} {B : Nat} {J : β → World → Prop} (h : Abide B J) {s : β} {X : World} (o : Obj) (hs : J s X) : J s (X.alloc o) := h s X _ none hs (grown_alloc X o) (fun _ e => by cases e)
theorem Abide.put {β : Type} {B : Nat} {J : β → World → Prop} (h : Abide B J) {s : β} {X : World} {l : Nat} (o : Obj) (hs : J s X) (hl : B ≤ l) : J s (X.putObj l o) := h s X _ (some l) hs (grownBy_putObj' X l o) (fun r e => by cases e; exact hl)
theorem Abide.new {β : Type} {B : Nat} {J : β → World → Prop} (h : Abide B J) {s : β} {X Y : World} (hs : J s X) (k : Below X.heap.size X Y) : J s Y := h s X _ none hs (grown_new k) (fun _ e => by cases e)
theorem Abide.set {β : Type} {B : Nat} {J : β → World → Prop} (h : Abide B J) {s : β} {X : World} {g : Nat} (k : Nat) (v : Value) (hs : J s X) (hg : B ≤ g) : J s (X.setCell ⟨g, k, none⟩ v) := h s X _ (some g) hs (grown_set' (grown_refl X g) k v) (fun r e => by cases e; exact hg)
theorem Abide.mono {β : Type} {B C : Nat} {J : β → World → Prop} (h : Abide B J) (hB : B ≤ C) : Abide C J := fun s X Y row hs hg hr => h s X Y row hs hg (fun r e => Nat.le_trans hB (hr r e))
theorem Abide.and {β : Type} {B : Nat} {J K : β → World → Prop} (h : Abide B J) (k : Abide B K) : Abide B (fun s X => J s X ∧ K s X) := fun s X Y row hs hg hr => ⟨h s X Y row hs.1 hg hr, k s X Y row hs.2 hg hr⟩
theorem Abide.or {β : Type} {B : Nat} {J K : β → World → Prop} (h : Abide B J) (k : Abide B K) : Abide B (fun s X => J s X ∨ K s X) := fun s X Y row hs hg hr => hs.elim (fun a => .inl (h s X Y row a hg hr)) (fun a => .inr (k s X Y row a hg hr))
theorem Abide.pure {β : Type} (B : Nat) (p : β → Prop) : Abide B (fun s (_ : World) => p s) := fun _ _ _ _ hs _ _ => hs
theorem Abide.comp {β γ : Type} {B : Nat} {J : β → World → Prop} (h : Abide B J) (f : γ → β) : Abide B (fun s X => J (f s) X) := fun s X Y row hs hg hr => h (f s) X Y row hs hg hr
theorem Abide.blk {β : Type} {B g : Nat} (hg : g < B) (t : TypeId) (f : β → Array Value) : Abide B (fun s X => Blk X g t (f s)) := fun _ _ _ _ hs hw hr => hs.kept hw (fun e => by have := hr g e.symm; omega)
theorem Abide.below {β : Type} {B n₀ : Nat} {w : World} (hn : n₀ ≤ w.heap.size) (hB : n₀ ≤ B) : Abide B (fun (_ : β) X => Below n₀ w X) := fun _ _ _ _ hs hw hr => hs.grown hw (Nat.le_trans hn hs.size) (fun k e => Nat.le_trans hB (hr k e))
theorem Abide.heap {β : Type} {B g : Nat} (hg : g < B) (o : β → Obj) : Abide B (fun s X => X.heap[g]? = some (o s)) := fun _ _ _ _ hs hw hr => (hw.block g (Array.getElem?_eq_some_iff.1 hs).1 (fun e => by have := hr g e.symm; omega)).trans hs
theorem Abide.ex {β γ : Type} {B : Nat} {J : γ → β → World → Prop} (h : ∀ c, Abide B (J c)) : Abide B (fun s X => ∃ c, J c s X) := fun s X Y row ⟨c, hs⟩ hg hr => ⟨c, h c s X Y row hs hg hr⟩

theorem room_of_none {F : Fence} (hd : F.depth = none) (k : Nat) : F.room k := fun d h => by rw [hd] at h; cases h
/-- At the wide fence a round wants no room. -/
theorem YieldAt.wide {m m' : Nat} {P : Program} {l : Nat} {args : Array Value} {X : World} {R : Ending → World → Prop} (h : YieldAt Fence.wide m P l args X R) : YieldAt Fence.wide m' P l args X R := by
  obtain ⟨fn, tmps, assign, body, hy, hR⟩ := h
  exact ⟨fn, tmps, assign, body, hy, hR.1, fun c cs _ => hR.2 c cs (room_of_none rfl _)⟩

/-- What an iterator owes. Bd: what the caller knows of all that has come between two rounds; Gd: what it is told of what comes next. -/
def SeqB {α : Type} (n : Nat) (P : Program) (g : Nat) (lb : Array Value) (encs : α → Array Value) (n₀ : Nat) (Bd : List α → Prop) (Gd : List α → α → Prop) (S Sp : List α → Prop) (w : World) : Prop :=
  ∀ (l : Nat) (J Jx : List α → World → Prop) (W : World), Below w.heap.size w W → Abide W.heap.size J → Abide W.heap.size Jx → (∀ pre X, J pre X → Bd pre) →
    (∀ pre x X, Gd pre x → J pre X → YieldAt Fence.wide 0 P l (encs x) X fun e Y => (e = .returned (.bool true) ∧ J (pre ++ [x]) Y ∧ Kept W.heap.size X Y ∧ Below n₀ X Y) ∨ (e = .returned (.bool false) ∧ Jx (pre ++ [x]) Y ∧ Kept W.heap.size X Y)) →
    J [] W →
    CallsIn Fence.wide n P g (#[.func (.yield l) #[] #[]] ++ lb) W fun e Y => (∃ v, e = .returned v) ∧ ((∃ xs, S xs ∧ J xs Y) ∨ (∃ pre, Sp pre ∧ Jx pre Y))

/-- How a round's body may end. -/
def postB {α : Type} (B n₀ : Nat) (I : List α → World → Prop) (Ix : Code → List α → World → Prop) (xs : List α) (X : World) : Exit → Act → World → Prop
  | .normal, _, Y => Kept B X Y ∧ Below n₀ X Y ∧ I xs Y
  | .ret, _, Y => Kept B X Y ∧ Ix .ret xs Y
  | .exit id, _, Y => Kept B X Y ∧ Ix (.exit id) xs Y
  | .goto t, _, Y => Kept B X Y ∧ Ix (.goto t) xs Y
  | .panic _, _, _ => False
  | .outgrown, _, _ => False

theorem wpIn_rangeB {P : Program} {α : Type} {n : Nat} {g : Operand} {ps : Array Tmp} {assign body : Code} {Q : Exit → Act → World → Prop} {a : Act} {w : World}
    (h1 : 1 ≤ n) {gf : Nat} {lb : Array Value} (hg : a.eval g = .func (.func gf) #[] lb) (eg : ∀ args w, (callFunc gf args).run P w = .ok (.enter gf args) w)
    {encs : α → Array Value} {n₀ : Nat} {Bd : List α → Prop} {Gd : List α → α → Prop} {S Sp : List α → Prop} {w0 : World} (hseq : SeqB (n - 1) P gf lb encs n₀ Bd Gd S Sp w0) (hb0 : Below w0.heap.size w0 w) (hn₀ : n₀ ≤ w.heap.size) (hps : ∀ x, (encs x).size = ps.size)
    (I : List α → World → Prop) (Ix : Code → List α → World → Prop) (hI : Abide w.heap.size I) (hIx : ∀ c, Abide w.heap.size (Ix c)) (hBd : ∀ pre X, I pre X → Bd pre) (h0 : I [] w)
    (Ax : α → Act → World → Prop) (hAx : ∀ x a', OwnFrom w.heap.size (fun (_ : Unit) X => Ax x a' X))
    (hassign : ∀ (l : Nat) (pre : List α) (x : α) (X : World) (K : Act → World → Prop), Gd pre x → I pre X → (∀ a' Y, Kept w.heap.size X Y → Below n₀ X Y → I pre Y → Ax x a' Y → K a' Y) →
      assign.wpIn (Fence.wide.inRound l) (n - 1 - 1) P (Exit.then K (fun _ _ _ => False)) { tmps := (ps.zip (encs x)).foldl (fun t (p, v) => t.setIfInBounds p v) a.tmps, defers := [] } X)
    (hbody : ∀ (l : Nat) (pre : List α) (x : α) (a' : Act) (X : World), w.heap.size ≤ l → Gd pre x → (∃ r, X.heap[l]? = some (.loop r)) → I pre X → Ax x a' X → body.wpIn (Fence.wide.inRound l) (n - 1 - 1) P (postB w.heap.size n₀ I Ix (pre ++ [x]) X) a' X)
    (hdone : ∀ (D : Nat) (xs : List α) (X : World), w.heap.size ≤ D → S xs → I xs X → X.heap[D]? = some (.deferred (some [])) → Q .normal { a with defers := { target := .collected D, args := #[] } :: a.defers } X)
    (hstop : ∀ (D : Nat) (c : Code) (pre : List α) (X : World), w.heap.size ≤ D → Sp pre → Ix c pre X → X.heap[D]? = some (.deferred (some [])) → c.wpIn Fence.wide n P Q { a with defers := { target := .collected D, args := #[] } :: a.defers } X) :
    (Code.rangeFunc g ps assign body).wpIn Fence.wide n P Q a w := by
  refine wpIn_rangeFunc (fun fn hfn => ?_)
  have hro : Fence.wide.round = none := rfl
  rw [hro]
  let R : LoopState → Option Code → Loop := fun st pe => { state := st, pending := pe, fn, tmps := a.tmps, params := ps, assign, body, defers := w.heap.size }
  obtain ⟨V, hV⟩ : ∃ V, (w.alloc (.deferred (some []))).alloc (.loop (R .ready none)) = V := ⟨_, rfl⟩
  have hVs : V.heap.size = w.heap.size + 2 := by rw [← hV]; simp
  have hwV : Below w.heap.size w V := by rw [← hV]; exact ((Below.refl _ w).alloc (Nat.le_refl _) _).alloc (by simp) _
  have hVl : V.heap[w.heap.size + 1]? = some (.loop (R .ready none)) := by
    rw [← hV]; have := World.alloc_heap_new (w.alloc (.deferred (some []))) (.loop (R .ready none)); rwa [World.size_alloc] at this
  have hVd : V.heap[w.heap.size]? = some (.deferred (some [])) := by
    rw [← hV]; exact (Below.heap_alloc _ _ _ (by simp)).trans (World.alloc_heap_new w _)
  have hVI : I [] V := hI.new h0 hwV
  refine ⟨w.heap.size + 1, [{ target := .collected w.heap.size, args := #[] }], V, { target := .fn (.func gf) lb, args := #[.func (.yield (w.heap.size + 1)) #[] #[]] }, V, gf, #[.func (.yield (w.heap.size + 1)) #[] #[]] ++ lb, V, ?_, ?_, fun _ _ => trivial, ?_, fun _ => h1, ?_⟩
  · rw [← hV]; exact run_enterLoop_outer _ _ _ _ _
  · simp only [resolve, hg]; simp [go_sem]
  · simp [invoke, go_sem, eg]
  refine (hseq (w.heap.size + 1)
    (fun pre X => (I pre X ∧ X.heap[w.heap.size + 1]? = some (.loop (R .ready none))) ∧ X.heap[w.heap.size]? = some (.deferred (some [])))
    (fun pre X => ∃ c, (Ix c pre X ∧ X.heap[w.heap.size + 1]? = some (.loop (R .done (some c)))) ∧ X.heap[w.heap.size]? = some (.deferred (some [])))
    V (hb0.trans (hwV.mono hb0.size))
    (((hI.mono (by omega)).and (Abide.heap (by omega) (fun _ => _))).and (Abide.heap (by omega) (fun _ => _)))
    (Abide.ex fun c => (((hIx c).mono (by omega)).and (Abide.heap (by omega) (fun _ => _))).and (Abide.heap (by omega) (fun _ => _)))
    (fun pre X h => hBd pre X h.1.1) ?_ ⟨⟨hVI, hVl⟩, hVd⟩).mono ?_
  · rintro pre x X hgd ⟨⟨hi, hl⟩, hk⟩
    have hll : w.heap.size + 1 < X.heap.size := (Array.getElem?_eq_some_iff.1 hl).1
    refine ⟨fn, _, assign, body, run_yield hl (hps x), ?_⟩
    refine RoundIn.mono (R := _) ?_ (fun _ _ h => h)
    suffices h : RoundIn Fence.wide (n - 1 - 1) P (w.heap.size + 1) fn ((ps.zip (encs x)).foldl (fun t (p, v) => t.setIfInBounds p v) a.tmps) assign body X _ from ⟨h.1, fun c cs _ => h.2 c cs (room_of_none rfl _)⟩
    refine roundIn_of_wpIn hfn (hassign _ pre x X _ hgd hi (fun a' Y hkY hbY hiY hax => ?_))
    have hlY : Y.heap[w.heap.size + 1]? = some (.loop (R .ready none)) := (hkY.2 _ (by omega) hll).trans hl
    have hkY2 : Y.heap[w.heap.size]? = some (.deferred (some [])) := (hkY.2 _ (Nat.le_refl _) (by omega)).trans hk
    refine ⟨_, run_beginRound hlY rfl, ?_⟩
    have hYl : w.heap.size + 1 < Y.heap.size := Nat.lt_of_lt_of_le hll hkY.1
    obtain ⟨Z, hZ⟩ : ∃ Z, Y.putObj (w.heap.size + 1) (.loop (R .busy none)) = Z := ⟨_, rfl⟩
    have hZ' : Y.putObj (w.heap.size + 1) (.loop { R .ready none with state := .busy }) = Z := hZ
    rw [hZ']
    have hZl : Z.heap[w.heap.size + 1]? = some (.loop (R .busy none)) := by rw [← hZ]; exact World.putObj_heap_same hYl
    have hZd : Z.heap[w.heap.size]? = some (.deferred (some [])) := by rw [← hZ]; exact (World.putObj_heap_other (by omega)).trans hkY2
    have hZI : I pre Z := by rw [← hZ]; exact hI.put _ hiY (by omega)
    have hZA : Ax x a' Z := by rw [← hZ]; exact (hAx x a').putObj (s := ()) _ hax (by omega) hlY rfl
    have hZb : Below n₀ Y Z := by rw [← hZ]; exact below_put Y _ (by omega)
    have hZk : Kept V.heap.size Y Z := by rw [← hZ]; exact Kept.put Y _ (by omega)
    have hZs : Z.heap.size = Y.heap.size := by rw [← hZ]; simp
    have fin : ∀ (jump : Option Code) (T : World), Kept w.heap.size Z T → ∃ U, (Instr.endRound (w.heap.size + 1) jump).run P T = .ok (.bool jump.isNone) U ∧ U = T.putObj (w.heap.size + 1) (.loop (R (if jump.isNone then .ready else .done) jump)) ∧
        U.heap[w.heap.size + 1]? = some (.loop (R (if jump.isNone then .ready else .done) jump)) ∧ U.heap[w.heap.size]? = some (.deferred (some [])) := fun jump T hT => by
      have hTl : T.heap[w.heap.size + 1]? = some (.loop (R .busy none)) := (hT.2 _ (by omega) (by omega)).trans hZl
      have hTd : T.heap[w.heap.size]? = some (.deferred (some [])) := (hT.2 _ (Nat.le_refl _) (by omega)).trans hZd
      refine ⟨_, run_endRound jump hTl, rfl, World.putObj_heap_same (Array.getElem?_eq_some_iff.1 hTl).1, (World.putObj_heap_other (by omega)).trans hTd⟩
    refine wpIn_mono (hbody _ pre x a' Z (by omega) hgd ⟨_, hZl⟩ hZI hZA) ?_
    rintro e a3 T hp
    cases e with
    | normal =>
      obtain ⟨hkT, hbT, hiT⟩ := hp
      obtain ⟨U, hr, hU, hUl, hUd⟩ := fin none T hkT
      refine ⟨_, _, hr, .inl ⟨rfl, ⟨⟨by rw [hU]; exact hI.put _ hiT (by omega), hUl⟩, hUd⟩, ?_, ?_⟩⟩
      · exact (hkY.mono (by omega)).trans (hZk.trans ((hkT.mono (by omega)).trans (by rw [hU]; exact Kept.put T _ (by omega))))
      · exact hbY.trans (hZb.trans (hbT.trans (by rw [hU]; exact below_put T _ (by omega))))
    | ret =>
      obtain ⟨U, hr, hU, hUl, hUd⟩ := fin (some .ret) T hp.1
      exact ⟨_, _, hr, .inr ⟨rfl, ⟨.ret, ⟨by rw [hU]; exact (hIx _).put _ hp.2 (by omega), hUl⟩, hUd⟩, (hkY.mono (by omega)).trans (hZk.trans ((hp.1.mono (by omega)).trans (by rw [hU]; exact Kept.put T _ (by omega))))⟩⟩
    | exit id =>
      obtain ⟨U, hr, hU, hUl, hUd⟩ := fin (some (.exit id)) T hp.1
      exact ⟨_, _, hr, .inr ⟨rfl, ⟨.exit id, ⟨by rw [hU]; exact (hIx _).put _ hp.2 (by omega), hUl⟩, hUd⟩, (hkY.mono (by omega)).trans (hZk.trans ((hp.1.mono (by omega)).trans (by rw [hU]; exact Kept.put T _ (by omega))))⟩⟩
    | goto t =>
      obtain ⟨U, hr, hU, hUl, hUd⟩ := fin (some (.goto t)) T hp.1
      exact ⟨_, _, hr, .inr ⟨rfl, ⟨.goto t, ⟨by rw [hU]; exact (hIx _).put _ hp.2 (by omega), hUl⟩, hUd⟩, (hkY.mono (by omega)).trans (hZk.trans ((hp.1.mono (by omega)).trans (by rw [hU]; exact Kept.put T _ (by omega))))⟩⟩
    | panic ch => exact hp.elim
    | outgrown => exact hp.elim
  · rintro e X ⟨⟨v, rfl⟩, (⟨xs, hS, ⟨hi, hl⟩, hk⟩ | ⟨pre, hSp, c, ⟨hi, hl⟩, hk⟩)⟩
    · exact ⟨none, _, run_endLoop hl (by simp [R]), hdone _ xs _ (Nat.le_refl _) hS (hI.put _ hi (by omega)) ((World.putObj_heap_other (by omega)).trans hk)⟩
    · exact ⟨some c, _, run_endLoop hl (by simp [R]), hstop _ c pre _ (Nat.le_refl _) hSp ((hIx c).put _ hi (by omega)) ((World.putObj_heap_other (by omega)).trans hk)⟩
end Go.Proofs.YtidpekcegocjfaaDoor

/- The reference of layer word: Order, by a contract. -/
namespace Go.Proofs.YtidpekcegocjfaaDoor
open Go.RowKit
attribute [local go_sem] ix0 ix1 ix2 ix3
theorem cmpI_of {x y : Int} (h : x < y) : cmpI x y = -1 := by unfold cmpI; rw [if_pos h]
theorem cmp_at {a b : Nat} (ha : a < MM) (hb : b < MM) : ∀ i, i < 4 → (∀ j, i < j → j < 4 → lb a j = lb b j) → lb a i < lb b i → cmpN a b = -1
  | 0, _, h, g => by rw [← cmp_fu ha hb, fuN_0 (h 3 (by omega) (by omega)) (h 2 (by omega) (by omega)) (h 1 (by omega) (by omega)) (by omega), fuN_0 (h 3 (by omega) (by omega)).symm (h 2 (by omega) (by omega)).symm (h 1 (by omega) (by omega)).symm (by omega), cmpI_of g]
  | 1, _, h, g => by rw [← cmp_fu ha hb, fuN_1 (h 3 (by omega) (by omega)) (h 2 (by omega) (by omega)) (by omega), fuN_1 (h 3 (by omega) (by omega)).symm (h 2 (by omega) (by omega)).symm (by omega), cmpI_of g]
  | 2, _, h, g => by rw [← cmp_fu ha hb, fuN_2 (h 3 (by omega) (by omega)) (by omega), fuN_2 (h 3 (by omega) (by omega)).symm (by omega), cmpI_of g]
  | 3, _, _, g => by rw [← cmp_fu ha hb, fuN_3 (by omega), fuN_3 (by omega), cmpI_of g]

end Go.Proofs.YtidpekcegocjfaaDoor

/- Small, the reference's and the program's; the reference's Order. -/
namespace Go.Proofs.YtidpekcegocjfaaDoor
open Go.RowKit
attribute [local go_sem] ix0 ix1 ix2 ix3
/-- What Small tells. -/
def smB (a : Nat) : Bool := lb a 1 == 0 && lb a 2 == 0 && lb a 3 == 0
def smV (a : Nat) : Int := if smB a then lb a 0 else 0
theorem smB_true {a : Nat} (h1 : lb a 1 = 0) (h2 : lb a 2 = 0) (h3 : lb a 3 = 0) : smB a = true := by unfold smB; simp [h1, h2, h3]
theorem smB_1 {a : Nat} (h : lb a 1 ≠ 0) : smB a = false := by unfold smB; simp [h]
theorem smB_2 {a : Nat} (h : lb a 2 ≠ 0) : smB a = false := by unfold smB; simp [h]
theorem smB_3 {a : Nat} (h : lb a 3 ≠ 0) : smB a = false := by unfold smB; simp [h]

theorem lb_low0 (a : Nat) : lb a 0 = ((a % B64 : Nat) : Int) := by unfold lb; rw [Nat.pow_zero, Nat.div_one]
theorem neq_small (a : Nat) (w : World) : (binOp .neq 24 (W a) (W (a % B64))).run Tryd.prog w = .ok (.bool (!smB a)) w := by
  obtain ⟨i, hi⟩ := Option.isSome_iff_exists.1 info_u64
  have h := run_neq_ints (t := 24) (n := 4) (P := Tryd.prog) (by kernel_rfl) (k := .u64) (by kernel_rfl) hi (by kernel_rfl) (Wc a) (Wc (a % B64)) (lb a) (lb (a % B64))
    (fun j hj => by match j, hj with | 0, _ | 1, _ | 2, _ | 3, _ => exact ⟨rfl, rfl⟩) w
  have hB := Nat.mod_lt a B64_pos
  have e0 : lb (a % B64) 0 = lb a 0 := by rw [lb_low0, lb_low0, Nat.mod_mod]
  have e1 : lb (a % B64) 1 = 0 := by unfold lb; rw [Nat.div_eq_of_lt (by rw [Nat.pow_one]; exact hB)]; rfl
  have e2 : lb (a % B64) 2 = 0 := by unfold lb; rw [Nat.div_eq_of_lt (by unfold B64 at *; omega)]; rfl
  have e3 : lb (a % B64) 3 = 0 := by unfold lb; rw [Nat.div_eq_of_lt (by unfold B64 at *; omega)]; rfl
  rw [show W a = .agg (Wc a) from rfl, show W (a % B64) = .agg (Wc (a % B64)) from rfl, h]
  have r4 : List.range 4 = [0, 1, 2, 3] := rfl
  simp [r4, e0, e1, e2, e3, smB, Bool.and_assoc]

theorem of_lb (a : Nat) (w : World) : Calls Tryd.prog 37 #[.int .u64 (lb a 0)] w fun e w' => e = .returned (W (a % B64)) ∧ Below w.heap.size w w' := by
  rw [lb_low0]; exact of_any _ (Nat.mod_lt a B64_pos) w
end Go.Proofs.YtidpekcegocjfaaDoor

