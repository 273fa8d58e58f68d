/- Texts laid into one: Pb. -/
import Derived.Test.YtjmfnafbjfceoaaDoorPa
import Derived.Laws.BitsAllLaws
import Derived.Laws.Rows
import Derived.Deep.MidRow
import Derived.Deep.Cut
import Derived.Deep.RegionLaw
import Derived.IntWalk
import Derived.Deep.RegionHeld
import Derived.Deep.QuietTactic
import Derived.BigQuiet
/- The reference's words, in plain numbers: sums byte by byte, all bits turned. -/
namespace Go.Proofs.YtjmfnafbjfceoaaDoor

/-- The carry of the byte sum ahead of byte k. -/
def cyB (a b k : Nat) : Nat := (a % 256 ^ k + b % 256 ^ k) / 256 ^ k
theorem p256_pos (k : Nat) : 0 < 256 ^ k := Nat.pow_pos (by omega)
theorem cyB_zero (a b : Nat) : cyB a b 0 = 0 := by simp [cyB, Nat.mod_one]
theorem cyB_le (a b k : Nat) : cyB a b k ≤ 1 := by
  have ha := Nat.mod_lt a (p256_pos k)
  have hb := Nat.mod_lt b (p256_pos k)
  have : cyB a b k < 2 := Nat.div_lt_of_lt_mul (by omega)
  omega
theorem byA_add (a b k : Nat) : (cyB a b k + byA a k + byA b k) % 256 = byA (a + b) k := by
  unfold byA cyB
  rw [add_div_split a b _ (p256_pos k), show (a % 256 ^ k + b % 256 ^ k) / 256 ^ k + a / 256 ^ k % 256 + b / 256 ^ k % 256 = a / 256 ^ k % 256 + b / 256 ^ k % 256 + (a % 256 ^ k + b % 256 ^ k) / 256 ^ k by omega]
  omega
theorem mod_succ256 (a k : Nat) : a % 256 ^ (k + 1) = a % 256 ^ k + 256 ^ k * (a / 256 ^ k % 256) := by
  rw [Nat.pow_succ, Nat.mod_mul]
theorem cyB_succ (a b k : Nat) : (cyB a b k + byA a k + byA b k) / 256 = cyB a b (k + 1) := by
  unfold byA cyB
  rw [mod_succ256 a k, mod_succ256 b k, Nat.pow_succ, ← Nat.div_div_eq_div_mul]
  have e : a % 256 ^ k + 256 ^ k * (a / 256 ^ k % 256) + (b % 256 ^ k + 256 ^ k * (b / 256 ^ k % 256)) = (a % 256 ^ k + b % 256 ^ k) + 256 ^ k * (a / 256 ^ k % 256 + b / 256 ^ k % 256) := by rw [Nat.mul_add]; omega
  rw [e, Nat.add_mul_div_left _ _ (p256_pos k)]
  congr 1; omega

/-- All bits turned. -/
def ntN (b : Nat) : Nat := MM - 1 - b % MM
theorem ntN_vl (b : Nat) : ntN b = vl (18446744073709551615 - b % MM / B64 ^ 0 % B64) (18446744073709551615 - b % MM / B64 ^ 1 % B64) (18446744073709551615 - b % MM / B64 ^ 2 % B64) (18446744073709551615 - b % MM / B64 ^ 3 % B64) := by
  have h := vl_lb (b % MM) (Nat.mod_lt _ MM_pos)
  have h0 := Nat.mod_lt (b % MM / B64 ^ 0) B64_pos
  have h1 := Nat.mod_lt (b % MM / B64 ^ 1) B64_pos
  have h2 := Nat.mod_lt (b % MM / B64 ^ 2) B64_pos
  have h3 := Nat.mod_lt (b % MM / B64 ^ 3) B64_pos
  generalize b % MM / B64 ^ 0 % B64 = x0 at *
  generalize b % MM / B64 ^ 1 % B64 = x1 at *
  generalize b % MM / B64 ^ 2 % B64 = x2 at *
  generalize b % MM / B64 ^ 3 % B64 = x3 at *
  unfold ntN
  rw [← h, MM_eq]
  unfold vl at *
  unfold B64 at *
  omega
theorem lb_not (b i : Nat) (hi : i < 4) : lb (ntN b) i = 18446744073709551615 - lb b i := by
  have e := ntN_vl b
  have s : ∀ j, 18446744073709551615 - b % MM / B64 ^ j % B64 < B64 := fun j => by unfold B64; omega
  have g : ∀ j, j < 4 → ((18446744073709551615 - b % MM / B64 ^ j % B64 : Nat) : Int) = 18446744073709551615 - lb b j := fun j hj => by
    have h1 : lb (b % MM) j = lb b j := lb_mod b j hj
    have h2 : b % MM / B64 ^ j % B64 < B64 := Nat.mod_lt _ B64_pos
    rw [← h1]; unfold lb
    unfold B64 at h2 ⊢
    omega
  rw [e]
  match i, hi with
  | 0, _ => rw [vl_0 _ _ _ (s 0)]; exact g 0 (by omega)
  | 1, _ => rw [vl_1 _ _ (s 0) (s 1)]; exact g 1 (by omega)
  | 2, _ => rw [vl_2 _ (s 0) (s 1) (s 2)]; exact g 2 (by omega)
  | 3, _ => rw [vl_3 (s 0) (s 1) (s 2) (s 3)]; exact g 3 (by omega)
/-- The difference by turning and one more. -/
theorem sb_nt (a b : Nat) : a + ntN b + 1 = sb a b := by
  have := Nat.mod_lt b MM_pos
  unfold ntN sb; omega
end Go.Proofs.YtjmfnafbjfceoaaDoor

/- The reference of layer word: Of, Not, Bytes, by contracts. -/
namespace Go.Proofs.YtjmfnafbjfceoaaDoor
open Go.RowKit
attribute [local go_sem] ix0 ix1 ix2 ix3
theorem rof_any (n : Nat) (h : n < B64) (w : World) :
    Calls Tryd.prog 24 #[.int .u64 n] w fun e w' => e = .returned (W n) ∧ Below w.heap.size w w' := by
  have h0 : (n : Int) = lb n 0 := by unfold lb; rw [Nat.pow_zero, Nat.div_one, Nat.mod_eq_of_lt h]
  have h1 : lb n 1 = 0 := by unfold lb; rw [Nat.div_eq_of_lt (by rw [Nat.pow_one]; exact h)]; rfl
  have h2 : lb n 2 = 0 := by unfold lb; rw [Nat.div_eq_of_lt (by unfold B64 at *; omega)]; rfl
  have h3 : lb n 3 = 0 := by unfold lb; rw [Nat.div_eq_of_lt (by unfold B64 at *; omega)]; rfl
  have e : W n = .agg #[.int .u64 n, .int .u64 0, .int .u64 0, .int .u64 0] := by unfold W; rw [h1, h2, h3, ← h0]
  clear h0 h1 h2 h3
  rw [e]; clear e
  go_enter Tryd.func24, Tryd.ntmps24
  go_wp2
  exact bodyPost_ret (v := .agg #[.int .u64 n, .int .u64 0, .int .u64 0, .int .u64 0]) (by simp [results, Tryd.results24, go_sem]) rfl ⟨rfl, (Below.refl _ _).alloc (Nat.le_refl _) _⟩

theorem xor_max (x : Nat) (h : x < 18446744073709551616) : 18446744073709551615 ^^^ x = 18446744073709551615 - x := by
  have h1 := BitVec.toNat_not (x := BitVec.ofNat 64 x)
  rw [BitVec.not_def, BitVec.toNat_xor, BitVec.toNat_allOnes, BitVec.toNat_ofNat, Nat.mod_eq_of_lt h] at h1
  simpa using h1
theorem not_lb (b i : Nat) : bits .xor .u64 IntKind.u64.max (lb b i) = 18446744073709551615 - lb b i := by
  have h1 : b / B64 ^ i % B64 < 18446744073709551616 := Nat.mod_lt _ B64_pos
  have h := u64_xor_nat 18446744073709551615 (b / B64 ^ i % B64) (by omega) h1
  rw [xor_max _ h1] at h
  have e : IntKind.u64.max = ((18446744073709551615 : Nat) : Int) := by decide
  rw [e]; unfold lb; rw [h]; omega

theorem below_setCells' {B b : Nat} {a : World} (hb : B ≤ b) : ∀ (vs : List Value) (o : Nat) (w : World), Below B a w → Below B a (w.setCells b o vs)
  | [], _, _, h => h
  | v :: vs, o, _, h => below_setCells' hb vs (o + 1) _ (h.setCell (p := ⟨b, o, none⟩) hb v)
theorem byC_one (a k : Nat) : (byC a k).all (·.oneCell') = true := by
  rw [Array.all_eq_true_iff_forall_mem]
  intro v hv
  unfold byC at hv
  simp only [List.mem_toArray, List.mem_map] at hv
  obtain ⟨p, _, rfl⟩ := hv
  rfl
theorem Blk.rangeAt {X : World} {g : Nat} {t : TypeId} {cs : Array Value} (h : Blk X g t cs) : X.rangeAt g 0 cs.toList := fun j v hv => by
  rw [Nat.zero_add]
  exact (cell_of_row X g j _ _ _ h).trans (by simpa using hv)
theorem Blk.there {X : World} {g : Nat} {t : TypeId} {cs : Array Value} (h : Blk X g t cs) (n : Nat) (hn : n ≤ cs.size) : X.there g 0 n := fun j hj => by
  rw [Nat.zero_add]
  refine ⟨?_, frozen_of_row X g j _ _ h⟩
  rw [cell_of_row X g j _ _ _ h, Array.getElem?_eq_getElem (by omega)]
  rfl

set_option maxRecDepth 100000 in
set_option maxHeartbeats 1000000 in
theorem rbytes_any (a : Nat) (w : World) :
    Calls Tryd.prog 44 #[W a] w fun e w' => e = .returned (.agg (byC a 32)) ∧ Below w.heap.size w w' := by
  go_enter Tryd.func44, Tryd.ntmps44
  go_wp2
  go_loopw [4] (fun i wr => ∃ k : Nat, k ≤ 32 ∧ i = .int .i64 k ∧ Blk wr (w.heap.size + 1 + 1) 81 (byC a k) ∧ Blk wr w.heap.size 47 (Wc a) ∧ Blk wr (w.heap.size + 1) 81 (byC a 0) ∧ Below w.heap.size w wr) (fun i _ => 32 - (intOf i).toNat)
  case atStart => exact ⟨0, Nat.zero_le _, rfl, by rw [← byC_zero a]; have h := Blk.new ((w.alloc (.cells (Wc a) 47)).alloc (.cells (byC a 0) 81)) 81 (byC a 0); rw [World.size_alloc, World.size_alloc] at h; exact h, ((Blk.new w _ _).alloc _).alloc _, by rw [← byC_zero a]; have h := (Blk.new (w.alloc (.cells (Wc a) 47)) 81 (byC a 0)).alloc (.cells (byC a 0) 81); rw [World.size_alloc] at h; exact h, balloc (balloc (balloc (Below.refl _ _) _) _) _⟩
  case round =>
    obtain ⟨k, hk, rfl, hs, hr, hz, hB⟩ := hrel
    by_cases hlt : k < 32
    · have hc : wr.cell? ⟨w.heap.size, k / 8, none⟩ = some (.int .u64 (lb a (k / 8))) := (cell_of_row wr _ _ _ _ _ hr).trans (by
        have : k / 8 = 0 ∨ k / 8 = 1 ∨ k / 8 = 2 ∨ k / 8 = 3 := by omega
        rcases this with h | h | h | h <;> rw [h] <;> rfl)
      have hd : wr.cell? ⟨w.heap.size + 1 + 1, 31 - k, none⟩ = some (.int .u8 (if 31 - (31 - k) < k then ((byA a (31 - (31 - k)) : Nat) : Int) else 0)) := (cell_of_row wr _ _ _ _ _ hs).trans (byC_get a k _ (by omega))
      have hf := frozen_of_row wr _ (31 - k) _ _ hs
      have HS := Lib.hid hs
      have HR := Lib.hid hr
      have HZ := Lib.hid hz
      clear hs hr hz
      go_wp2
      rw [show 8 * (k % 8) = k % 8 * 8 by omega, by_lb]
      refine ⟨⟨k + 1, by omega, by go_num, ?_, HR.out.kept (grown_set' (grown_refl wr (w.heap.size + 1 + 1)) (31 - k) _) (by simp <;> omega), HZ.out.kept (grown_set' (grown_refl wr (w.heap.size + 1 + 1)) (31 - k) _) (by simp <;> omega), hB.setCell (p := ⟨w.heap.size + 1 + 1, 31 - k, none⟩) (by simp; omega) _⟩, by simp [intOf]; omega⟩
      have h := heap_setCell_same wr (w.heap.size + 1 + 1) (31 - k) _ _ (.int .u8 (byA a k : Nat)) HS.out
      rw [byC_set a k hlt] at h
      exact h
    · obtain rfl : k = 32 := by omega
      have HS := Lib.hid hs
      have HZ := Lib.hid hz
      clear hs hr hz
      have hi : (Tryd.prog.info? 81).map (·.size) = some (byC a 32).size := by rw [byC_size]; kernel_rfl
      have hu : Tryd.prog.underlying 81 = some (.array 32 5) := by kernel_rfl
      have HI := Lib.hid hi
      have HU := Lib.hid hu
      clear hi hu
      go_upto_region 6 with (fail)
      refine wp_region_lit (wpList_load_mid rfl 81 (.tmp 3) rfl (w.heap.size + 1 + 1) 0 rfl (byC a 32).toList _ HS.out.rangeAt HU.out rfl HI.out ?_)
      have ht : wr.there (w.heap.size + 1) 0 (byC a 32).size := HZ.out.there _ (by rw [byC_size, byC_size]; exact Nat.le_refl _)
      refine wpList_store_mid rfl 81 (.tmp 2) (.tmp 22) rfl (w.heap.size + 1) 0 (byC a 32) rfl rfl ht HI.out (byC_one a 32) (wpList_nil ?_)
      have hr : (loadVar 81 ⟨w.heap.size + 1, 0, none⟩).run Tryd.prog (wr.setCells (w.heap.size + 1) 0 (byC a 32).toList) = .ok (.agg (byC a 32)) (wr.setCells (w.heap.size + 1) 0 (byC a 32).toList) :=
        run_loadVar_mid _ _ _ _ (byC a 32).toList _ (World.rangeAt_setCells_same _ _ _ _ ht) HU.out rfl HI.out
      have hB' := below_setCells' (B := w.heap.size) (b := w.heap.size + 1) (by omega) (byC a 32).toList 0 wr hB
      clear ht
      generalize wr.setCells (w.heap.size + 1) 0 (byC a 32).toList = wz at *
      go_wp2
      exact bodyPost_ret (v := .agg (byC a 32)) (by simp [results, Tryd.results44, Act.put, asAddr, hr]) rfl ⟨rfl, hB'⟩
end Go.Proofs.YtjmfnafbjfceoaaDoor

/- The reference of layer word: From, by a contract. -/
namespace Go.Proofs.YtjmfnafbjfceoaaDoor
open Go.RowKit
attribute [local go_sem] ix0 ix1 ix2 ix3
theorem p256_split (k : Nat) : 256 ^ k = B64 ^ (k / 8) * 256 ^ (k % 8) := by
  rw [B64_256, ← Nat.pow_mul, ← Nat.pow_add, Nat.div_add_mod]
theorem low_lt (a k : Nat) : a % 256 ^ k / B64 ^ (k / 8) < 256 ^ (k % 8) := by
  apply Nat.div_lt_of_lt_mul
  rw [← p256_split]
  exact Nat.mod_lt _ (p256_pos k)
theorem p256_le (k : Nat) : 256 ^ (k % 8) * 256 ≤ B64 := by
  rw [← Nat.pow_succ, B64_256]
  exact Nat.pow_le_pow_right (by omega) (by have := Nat.mod_lt k (show 0 < 8 by omega); omega)
theorem low_succ (a k : Nat) : a % 256 ^ (k + 1) / B64 ^ (k / 8) = a % 256 ^ k / B64 ^ (k / 8) + 256 ^ (k % 8) * byA a k := by
  rw [mod_succ256]
  conv => lhs; rw [show 256 ^ k * (a / 256 ^ k % 256) = B64 ^ (k / 8) * (256 ^ (k % 8) * (a / 256 ^ k % 256)) by rw [← Nat.mul_assoc, ← p256_split]]
  rw [Nat.add_mul_div_left _ _ (pow_pos' _)]; rfl
/-- The limb that byte k goes into. -/
theorem lb_low (a k : Nat) : lb (a % 256 ^ k) (k / 8) = ((a % 256 ^ k / B64 ^ (k / 8) : Nat) : Int) := by
  unfold lb
  rw [Nat.mod_eq_of_lt]
  have h1 := low_lt a k
  have h2 := p256_le k
  have h3 := p256_pos (k % 8)
  omega
theorem lb_low_succ (a k : Nat) : lb (a % 256 ^ (k + 1)) (k / 8) = ((a % 256 ^ k / B64 ^ (k / 8) + 256 ^ (k % 8) * byA a k : Nat) : Int) := by
  unfold lb
  rw [low_succ, Nat.mod_eq_of_lt]
  have h1 := low_lt a k
  have h2 := p256_le k
  have h4 := byA_lt a k
  have h5 : 256 ^ (k % 8) * byA a k ≤ 256 ^ (k % 8) * 255 := Nat.mul_le_mul_left _ (by omega)
  omega
/-- The other limbs stay. -/
theorem lb_other (a k j : Nat) (h : j ≠ k / 8) : lb (a % 256 ^ (k + 1)) j = lb (a % 256 ^ k) j := by
  unfold lb
  congr 1
  rcases Nat.lt_or_gt_of_ne h with h | h
  · -- below: whole already
    rw [mod_succ256]
    generalize a / 256 ^ k % 256 = d
    have e : 256 ^ k * d = B64 ^ j * (B64 * (B64 ^ (k / 8 - j - 1) * 256 ^ (k % 8) * d)) := by
      have e1 : B64 ^ (k / 8) = B64 ^ j * B64 * B64 ^ (k / 8 - j - 1) := by
        rw [← Nat.pow_succ, ← Nat.pow_add]; congr 1; omega
      rw [p256_split k, e1]
      have e2 : ∀ x y z u v : Nat, x * y * z * u * v = x * (y * (z * u * v)) := fun x y z u v => by simp only [Nat.mul_assoc]
      exact e2 _ _ _ _ _
    rw [e, Nat.add_mul_div_left _ _ (pow_pos' j), Nat.add_mul_mod_self_left]
  · -- above: nought
    have h1 : a % 256 ^ (k + 1) < B64 ^ j := by
      refine Nat.lt_of_lt_of_le (Nat.mod_lt _ (p256_pos _)) ?_
      rw [B64_256, ← Nat.pow_mul]
      exact Nat.pow_le_pow_right (by omega) (by omega)
    have h2 : a % 256 ^ k < B64 ^ j := by
      refine Nat.lt_of_lt_of_le (Nat.mod_lt _ (p256_pos _)) ?_
      rw [B64_256, ← Nat.pow_mul]
      exact Nat.pow_le_pow_right (by omega) (by omega)
    rw [Nat.div_eq_of_lt h1, Nat.div_eq_of_lt h2]

theorem p256_two (r : Nat) : 256 ^ r = 2 ^ (8 * r) := by rw [Nat.pow_mul]
theorem or_low (a k : Nat) : bits .or .u64 (lb (a % 256 ^ k) (k / 8)) (IntKind.u64.wrap (IntKind.u64.wrap ((byA a k : Nat) : Int) * 2 ^ (8 * (k % 8)))) = lb (a % 256 ^ (k + 1)) (k / 8) := by
  have h1 := low_lt a k
  have h2 := p256_le k
  have h3 := p256_pos (k % 8)
  have h4 := byA_lt a k
  have h5 : 256 ^ (k % 8) * byA a k ≤ 256 ^ (k % 8) * 255 := Nat.mul_le_mul_left _ (by omega)
  have hB : B64 = 18446744073709551616 := rfl
  have e0 : IntKind.u64.wrap ((byA a k : Nat) : Int) = ((byA a k : Nat) : Int) := IntWalk.u64_in _ (by omega)
  rw [e0]
  have e : ((byA a k : Nat) : Int) * 2 ^ (8 * (k % 8)) = ((256 ^ (k % 8) * byA a k : Nat) : Int) := by
    rw [p256_two, Nat.mul_comm (2 ^ (8 * (k % 8)))]; simp
  rw [e, IntWalk.u64_in _ (by omega), lb_low, lb_low_succ, u64_or_nat _ _ (by omega) (by omega), Nat.or_comm]
  rw [p256_two (k % 8)] at h1 ⊢
  rw [← Nat.two_pow_add_eq_or_of_lt h1, Nat.add_comm]
theorem wc_set (a k : Nat) (hk : k < 32) : (Wc (a % 256 ^ k)).setIfInBounds (k / 8) (.int .u64 (lb (a % 256 ^ (k + 1)) (k / 8))) = Wc (a % 256 ^ (k + 1)) := by
  have o := lb_other a k
  have h4 : k / 8 = 0 ∨ k / 8 = 1 ∨ k / 8 = 2 ∨ k / 8 = 3 := by omega
  unfold Wc
  rcases h4 with h | h | h | h <;> rw [h] at o ⊢
  · rw [o 1 (by omega), o 2 (by omega), o 3 (by omega)]; rfl
  · rw [o 0 (by omega), o 2 (by omega), o 3 (by omega)]; rfl
  · rw [o 0 (by omega), o 1 (by omega), o 3 (by omega)]; rfl
  · rw [o 0 (by omega), o 1 (by omega), o 2 (by omega)]; rfl
theorem MM_256 : MM = 256 ^ 32 := by unfold MM; rw [B64_256, ← Nat.pow_mul]
theorem wc_get (a k : Nat) (hk : k < 4) : (Wc a)[k]? = some (.int .u64 (lb a k)) := by
  match k, hk with
  | 0, _ | 1, _ | 2, _ | 3, _ => rfl

set_option maxRecDepth 100000 in
set_option maxHeartbeats 1000000 in
theorem rfrom_any (a : Nat) (w : World) :
    Calls Tryd.prog 65 #[.agg (byC a 32)] w fun e w' => e = .returned (W a) ∧ Below w.heap.size w w' := by
  go_enter Tryd.func65, Tryd.ntmps65
  go_wp2_with fail
  go_loopw [4] (fun i wr => ∃ k : Nat, k ≤ 32 ∧ i = .int .i64 k ∧ Blk wr (w.heap.size + 1 + 1) 47 (Wc (a % 256 ^ k)) ∧ Blk wr w.heap.size 81 (byC a 32) ∧ Blk wr (w.heap.size + 1) 47 #[.int .u64 0, .int .u64 0, .int .u64 0, .int .u64 0] ∧ Below w.heap.size w wr) (fun i _ => 32 - (intOf i).toNat)
  case atStart =>
    refine ⟨0, Nat.zero_le _, rfl, ?_, ?_, ?_, ?_⟩
    · have h := Blk.new ((w.alloc (.cells (byC a 32) 81)).alloc (.cells #[.int .u64 0, .int .u64 0, .int .u64 0, .int .u64 0] 47)) 47 (Wc (a % 256 ^ 0))
      rw [Nat.pow_zero, Nat.mod_one] at h ⊢
      unfold Wc at h ⊢
      simp only [lb_zero] at h ⊢
      rw [World.size_alloc, World.size_alloc] at h
      exact h
    · exact ((Blk.new w _ _).alloc _).alloc _
    · have h := (Blk.new (w.alloc (.cells (byC a 32) 81)) 47 #[.int .u64 0, .int .u64 0, .int .u64 0, .int .u64 0]).alloc (.cells #[.int .u64 0, .int .u64 0, .int .u64 0, .int .u64 0] 47)
      rw [World.size_alloc] at h
      exact h
    · exact balloc (balloc (balloc (Below.refl _ _) _) _) _
  case round =>
    obtain ⟨k, hk, rfl, hs, hr, hz, hB⟩ := hrel
    by_cases hlt : k < 32
    · have hc := (cell_of_row wr _ _ _ _ _ hs).trans (wc_get (a % 256 ^ k) (k / 8) (by omega))
      have hd : wr.cell? ⟨w.heap.size, 31 - k, none⟩ = some (.int .u8 (if 31 - (31 - k) < 32 then ((byA a (31 - (31 - k)) : Nat) : Int) else 0)) := (cell_of_row wr _ _ _ _ _ hr).trans (byC_get a 32 _ (by omega))
      rw [show 31 - (31 - k) = k by omega, if_pos hlt] at hd
      have hf := frozen_of_row wr _ (k / 8) _ _ hs
      have HS := Lib.hid hs
      have HR := Lib.hid hr
      have HZ := Lib.hid hz
      clear hs hr hz
      have g1 : IntKind.i64.wrap ((k : Int) / 8) = (k : Int) / 8 := IntWalk.i64_in _ (by omega)
      have g2 : (0 : Int) ≤ (k : Int) / 8 := by omega
      have g3 : (k : Int) / 8 < 4 := by omega
      have g4 : ((k : Int) / 8).toNat = k / 8 := by omega
      have g5 : IntKind.i64.wrap (31 - (k : Int)) = 31 - (k : Int) := IntWalk.i64_in _ (by omega)
      have g6 : (0 : Int) ≤ 31 - (k : Int) := by omega
      have g7 : 31 - (k : Int) < 32 := by omega
      have g8 : (31 - (k : Int)).toNat = 31 - k := by omega
      have g9 : (k : Int).tmod 8 = (k : Int) % 8 := Int.tmod_eq_emod_of_nonneg (by omega)
      have g10 : IntKind.i64.wrap (8 * ((k : Int) % 8)) = 8 * ((k : Int) % 8) := IntWalk.i64_in _ (by omega)
      have g11 : IntKind.u64.wrap (8 * ((k : Int) % 8)) = 8 * ((k : Int) % 8) := IntWalk.u64_in _ (by omega)
      have g12 : (k : Int) ≤ 31 := by omega
      have g13 : (0 : Int) ≤ (k : Int) % 8 := by omega
      have g14 : (0 : Int) ≤ 8 * ((k : Int) % 8) := by omega
      have g15 : (8 * ((k : Int) % 8)).toNat = 8 * (k % 8) := by omega
      go_wp2_with fail
      go_region_law (fail)
      all_goals go_wp2
      all_goals rw [or_low]
      all_goals
        have G := grown_set' (grown_refl wr (w.heap.size + 1 + 1)) (k / 8) (.int .u64 (lb (a % 256 ^ (k + 1)) (k / 8)))
        have h := heap_setCell_same wr (w.heap.size + 1 + 1) (k / 8) _ _ (.int .u64 (lb (a % 256 ^ (k + 1)) (k / 8))) HS.out
        rw [wc_set a k hlt] at h
        have hR2 := HR.out.kept G (by simp <;> omega)
        have hZ2 := HZ.out.kept G (by simp <;> omega)
        exact ⟨⟨k + 1, by omega, by go_num, h, hR2, hZ2, (hB.setCell (p := ⟨w.heap.size + 1 + 1, k / 8, none⟩) (by simp; omega) _).drew⟩, by simp [intOf]; omega⟩
    · obtain rfl : k = 32 := by omega
      rw [← MM_256] at hs
      have e : Wc (a % MM) = Wc a := by unfold Wc; rw [lb_mod a 0 (by omega), lb_mod a 1 (by omega), lb_mod a 2 (by omega), lb_mod a 3 (by omega)]
      rw [e] at hs
      have c0 := (cell_of_row wr _ 0 _ _ _ hs).trans (wc_get a 0 (by omega))
      have c1 := (cell_of_row wr _ 1 _ _ _ hs).trans (wc_get a 1 (by omega))
      have c2 := (cell_of_row wr _ 2 _ _ _ hs).trans (wc_get a 2 (by omega))
      have c3 := (cell_of_row wr _ 3 _ _ _ hs).trans (wc_get a 3 (by omega))
      have r0 := cell_of_row wr _ 0 _ _ _ hz
      have r1 := cell_of_row wr _ 1 _ _ _ hz
      have r2 := cell_of_row wr _ 2 _ _ _ hz
      have r3 := cell_of_row wr _ 3 _ _ _ hz
      have f0 := frozen_of_row wr _ 0 _ _ hz
      have f1 := frozen_of_row wr _ 1 _ _ hz
      have f2 := frozen_of_row wr _ 2 _ _ hz
      have f3 := frozen_of_row wr _ 3 _ _ hz
      clear hs hr hz e
      go_wp2
      exact bodyPost_ret (v := W a) (by simp [results, Tryd.results65, go_sem, r0, r1, r2, r3]) rfl ⟨rfl, (((hB.setCell (p := ⟨w.heap.size + 1, 0, none⟩) (by simp) _).setCell (p := ⟨w.heap.size + 1, 1, none⟩) (by simp) _).setCell (p := ⟨w.heap.size + 1, 2, none⟩) (by simp) _).setCell (p := ⟨w.heap.size + 1, 3, none⟩) (by simp) _⟩
end Go.Proofs.YtjmfnafbjfceoaaDoor

/- The reference of layer word: Add, the cells of the loop (the walk is not written yet). -/
namespace Go.Proofs.YtjmfnafbjfceoaaDoor
open Go.RowKit

/-- 32 cells: the lowest k bytes of the sum, above them a's. -/
def adC (a b k : Nat) : Array Value := ((List.range 32).map fun p => Value.int .u8 (if 31 - p < k then ((byA (a + b) (31 - p) : Nat) : Int) else ((byA a (31 - p) : Nat) : Int))).toArray
theorem adC_get (a b k p : Nat) (hp : p < 32) : (adC a b k)[p]? = some (.int .u8 (if 31 - p < k then ((byA (a + b) (31 - p) : Nat) : Int) else ((byA a (31 - p) : Nat) : Int))) := by
  unfold adC; simp [hp]
theorem adC_size (a b k : Nat) : (adC a b k).size = 32 := by unfold adC; simp
theorem adC_zero (a b : Nat) : adC a b 0 = byC a 32 := by
  apply Array.ext_getElem?
  intro p
  by_cases hp : p < 32
  · rw [adC_get _ _ _ _ hp, byC_get _ _ _ hp, if_neg (by omega), if_pos (by omega)]
  · rw [Array.getElem?_eq_none (by rw [adC_size]; omega), Array.getElem?_eq_none (by rw [byC_size]; omega)]
theorem adC_all (a b : Nat) : adC a b 32 = byC (a + b) 32 := by
  apply Array.ext_getElem?
  intro p
  by_cases hp : p < 32
  · rw [adC_get _ _ _ _ hp, byC_get _ _ _ hp, if_pos (by omega), if_pos (by omega)]
  · rw [Array.getElem?_eq_none (by rw [adC_size]; omega), Array.getElem?_eq_none (by rw [byC_size]; omega)]
theorem adC_set (a b k : Nat) (hk : k < 32) : (adC a b k).setIfInBounds (31 - k) (.int .u8 (byA (a + b) k : Nat)) = adC a b (k + 1) := by
  apply Array.ext_getElem?
  intro p
  by_cases hp : p < 32
  · rw [Array.getElem?_setIfInBounds, adC_size, adC_get _ _ _ _ hp, adC_get _ _ _ _ hp]
    by_cases h : 31 - k = p
    · subst h
      rw [if_pos rfl, if_pos (by omega), if_pos (by omega), show 31 - (31 - k) = k from by omega]
    · rw [if_neg h]
      by_cases g : 31 - p < k
      · rw [if_pos g, if_pos (by omega)]
      · rw [if_neg g, if_neg (by omega)]
  · rw [Array.getElem?_eq_none (by rw [Array.size_setIfInBounds, adC_size]; omega), Array.getElem?_eq_none (by rw [adC_size]; omega)]

end Go.Proofs.YtjmfnafbjfceoaaDoor

/- The reference of layer word: Add, by a contract. -/
namespace Go.Proofs.YtjmfnafbjfceoaaDoor
open Go.RowKit
attribute [local go_sem] ix0 ix1 ix2 ix3
theorem Blk.keep {X Y : World} {g : Nat} {t : TypeId} {cs : Array Value} (h : Blk X g t cs) (k : Below X.heap.size X Y) : Blk Y g t cs := (k.block g h.lt).trans h
theorem rstep {w W w1 : World} (k : Below W.heap.size W w1) (h : Below w.heap.size w W) : Below w.heap.size w w1 := bstep h k
theorem Blk.drewR {X : World} {g : Nat} {t : TypeId} {cs : Array Value} (h : Blk X g t cs) : Blk X.drew g t cs := h
theorem Blk.newS (X : World) (o : Obj) (t : TypeId) (cs : Array Value) : Blk ((X.alloc o).alloc (.cells cs t)) (X.heap.size + 1) t cs := by
  have h := Blk.new (X.alloc o) t cs
  rwa [World.size_alloc] at h
theorem join2 {C : Nat → Nat → World → Prop} {G : Prop} (P : Nat → Nat → World → Prop) (main : (∀ X Y wz, C X Y wz → P X Y wz) → G) (hrest : ∀ X Y wz, C X Y wz → P X Y wz) : G := main hrest
theorem World.size_drew' (w : World) : w.drew.heap.size = w.heap.size := rfl
theorem blk_setCells_any (b : Nat) (t : TypeId) : ∀ (vs : List Value) (o : Nat) (w : World) (cs : Array Value), Blk w b t cs → ∃ cs', cs'.size = cs.size ∧ Blk (w.setCells b o vs) b t cs'
  | [], _, _, cs, h => ⟨cs, rfl, h⟩
  | v :: vs, o, w, cs, h => by
    obtain ⟨cs', h1, h2⟩ := blk_setCells_any b t vs (o + 1) (w.setCell ⟨b, o, none⟩ v) (cs.setIfInBounds o v) (heap_setCell_same w b o _ _ v h)
    exact ⟨cs', by rw [h1, Array.size_setIfInBounds], h2⟩
/-- A whole block is laid anew. -/
theorem blk_setCells {w : World} {b : Nat} {t : TypeId} {cs : Array Value} (h : Blk w b t cs) (vs : Array Value) (hs : vs.size = cs.size) (_h1 : vs.all (·.oneCell') = true) : Blk (w.setCells b 0 vs.toList) b t vs := by
  obtain ⟨cs', h1, h2⟩ := blk_setCells_any b t vs.toList 0 w cs h
  have h3 := World.rangeAt_setCells_same w b 0 vs.toList (h.there _ (by rw [Array.length_toList, hs]; exact Nat.le_refl _))
  have e : cs' = vs := by
    apply Array.ext_getElem?
    intro j
    by_cases hj : j < vs.size
    · have h4 := h3 j vs[j] (by simp [hj])
      rw [Nat.zero_add] at h4
      rw [← cell_of_row _ b j _ _ _ h2, h4, Array.getElem?_eq_getElem hj]
    · rw [Array.getElem?_eq_none (by omega), Array.getElem?_eq_none (by omega)]
  rw [← e]; rw [e] at h2 ⊢; exact h2
theorem blk_setCells_far {g : Nat} {t : TypeId} {cs : Array Value} {w : World} (h : Blk w g t cs) (b : Nat) : ∀ (o : Nat) (vs : List Value), g ≠ b → Blk (w.setCells b o vs) g t cs := by
  intro o vs hne
  induction vs generalizing o w with
  | nil => exact h
  | cons v vs ih => exact ih ((Below.heap_setCell w ⟨b, o, none⟩ v g hne).trans h) (o + 1)

end Go.Proofs.YtjmfnafbjfceoaaDoor

/- The reference of layer word: Sub, Order, Small, by contracts. -/
namespace Go.Proofs.YtjmfnafbjfceoaaDoor
open Go.RowKit
attribute [local go_sem] ix0 ix1 ix2 ix3
theorem rstepB {B : Nat} {W W1 w1 : World} (hB : B ≤ W.heap.size) (k : Below W1.heap.size W1 w1) (h : Below B W W1) : Below B W w1 := h.trans (k.mono (Nat.le_trans hB h.size))
theorem wc_one (n : Nat) : (Wc n).all (·.oneCell') = true := by
  rw [Array.all_eq_true_iff_forall_mem]
  intro v hv
  unfold Wc at hv
  simp only [List.mem_toArray, List.mem_cons, List.not_mem_nil, or_false] at hv
  rcases hv with rfl | rfl | rfl | rfl <;> rfl
theorem info_word : (Tryd.prog.info? 47).map (·.size) = some 4 := by kernel_rfl

end Go.Proofs.YtjmfnafbjfceoaaDoor

/- The reference of layer word: Mul, by a contract. -/
namespace Go.Proofs.YtjmfnafbjfceoaaDoor
open Go.RowKit
attribute [local go_sem] ix0 ix1 ix2 ix3
/-! One row of the product: S + 256^i * (d * b), byte by byte. -/
def cyM (S d b i k : Nat) : Nat := (S % 256 ^ (i + k) + 256 ^ i * (d * (b % 256 ^ k))) / 256 ^ (i + k)
theorem cyM_zero (S d b i : Nat) : cyM S d b i 0 = 0 := by
  unfold cyM
  rw [Nat.pow_zero, Nat.mod_one, Nat.mul_zero, Nat.mul_zero, Nat.add_zero, Nat.add_zero]
  exact Nat.div_eq_of_lt (Nat.mod_lt _ (p256_pos i))
theorem mul_mid (Q d x y : Nat) : Q * (d * (x + y)) = Q * (d * x) + Q * (d * y) := by rw [Nat.mul_add, Nat.mul_add]
theorem row_next (S d b i k : Nat) : S % 256 ^ (i + (k + 1)) + 256 ^ i * (d * (b % 256 ^ (k + 1))) = (S % 256 ^ (i + k) + 256 ^ i * (d * (b % 256 ^ k))) + 256 ^ (i + k) * (byA S (i + k) + d * byA b k) := by
  unfold byA
  rw [← Nat.add_assoc i k 1, mod_succ256 S (i + k), mod_succ256 b k, mul_mid, Nat.mul_add (256 ^ (i + k))]
  have e : 256 ^ i * (d * (256 ^ k * (b / 256 ^ k % 256))) = 256 ^ (i + k) * (d * (b / 256 ^ k % 256)) := by
    rw [Nat.pow_add, Nat.mul_assoc, Nat.mul_left_comm d]
  rw [e]; omega
theorem cyM_succ (S d b i k : Nat) : (cyM S d b i k + byA S (i + k) + d * byA b k) / 256 = cyM S d b i (k + 1) := by
  unfold cyM
  rw [row_next, ← Nat.add_assoc i k 1, Nat.pow_succ 256 (i + k), ← Nat.div_div_eq_div_mul, Nat.add_mul_div_left _ _ (p256_pos _), Nat.add_assoc]
theorem byA_row (S d b i k : Nat) : (cyM S d b i k + byA S (i + k) + d * byA b k) % 256 = byA (S + 256 ^ i * (d * b)) (i + k) := by
  have hS := Nat.div_add_mod S (256 ^ (i + (k + 1)))
  have hb := Nat.div_add_mod b (256 ^ (k + 1))
  generalize S / 256 ^ (i + (k + 1)) = q at hS
  generalize b / 256 ^ (k + 1) = q2 at hb
  have e : S + 256 ^ i * (d * b) = (S % 256 ^ (i + k) + 256 ^ i * (d * (b % 256 ^ k))) + 256 ^ (i + k) * (byA S (i + k) + d * byA b k + 256 * (q + d * q2)) := by
    have h1 := row_next S d b i k
    have h2 : 256 ^ i * (d * b) = 256 ^ i * (d * (b % 256 ^ (k + 1))) + 256 ^ (i + k) * (256 * (d * q2)) := by
      conv => lhs; rw [← hb]
      rw [Nat.add_comm, mul_mid]
      congr 1
      rw [Nat.pow_succ, Nat.pow_add, Nat.mul_assoc (256 ^ k), Nat.mul_left_comm d, Nat.mul_left_comm d, Nat.mul_assoc]
    have h3 : 256 ^ (i + (k + 1)) * q = 256 ^ (i + k) * (256 * q) := by
      rw [← Nat.add_assoc, Nat.pow_succ, Nat.mul_assoc]
    have h4 := Nat.mul_add (256 ^ (i + k)) (byA S (i + k) + d * byA b k) (256 * (q + d * q2))
    have h5 : 256 ^ (i + k) * (256 * (q + d * q2)) = 256 ^ (i + k) * (256 * q) + 256 ^ (i + k) * (256 * (d * q2)) := by rw [Nat.mul_add 256, Nat.mul_add]
    rw [h4, h5, h2]
    omega
  unfold byA cyM at *
  rw [e, Nat.add_mul_div_left _ _ (p256_pos _)]
  omega
theorem cyM_lt (S d b i k : Nat) (hd : d < 256) : cyM S d b i k < 256 := by
  unfold cyM
  apply Nat.div_lt_of_lt_mul
  have h1 := Nat.mod_lt S (p256_pos (i + k))
  have h2 := Nat.mod_lt b (p256_pos k)
  have h3 : d * (b % 256 ^ k) ≤ 255 * 256 ^ k := Nat.mul_le_mul (by omega) (by omega)
  have h4 : 256 ^ i * (d * (b % 256 ^ k)) ≤ 256 ^ i * (255 * 256 ^ k) := Nat.mul_le_mul_left _ h3
  have h5 : 256 ^ i * (255 * 256 ^ k) = 255 * 256 ^ (i + k) := by rw [Nat.mul_left_comm, ← Nat.pow_add]
  omega
/-- The bytes below the row's place stay. -/
theorem byA_low (S T i q : Nat) (hq : q < i) : byA (S + 256 ^ i * T) q = byA S q := by
  unfold byA
  have e : 256 ^ i * T = 256 ^ q * (256 * (256 ^ (i - q - 1) * T)) := by
    rw [← Nat.mul_assoc, ← Nat.mul_assoc, ← Nat.pow_succ, ← Nat.pow_add]; congr 2; omega
  rw [e, Nat.add_mul_div_left _ _ (p256_pos _)]; omega
theorem adC_low (S T i : Nat) : adC S (256 ^ i * T) i = byC S 32 := by
  apply Array.ext_getElem?
  intro p
  by_cases hp : p < 32
  · rw [adC_get _ _ _ _ hp, byC_get _ _ _ hp, if_pos (by omega : 31 - p < 32)]
    by_cases h : 31 - p < i
    · rw [if_pos h, byA_low _ _ _ _ h]
    · rw [if_neg h]
  · rw [Array.getElem?_eq_none (by rw [adC_size]; omega), Array.getElem?_eq_none (by rw [byC_size]; omega)]
/-- The rows: what a's low bytes come to. -/
theorem rows_next (a b i : Nat) : a % 256 ^ i * b + 256 ^ i * (byA a i * b) = a % 256 ^ (i + 1) * b := by
  unfold byA
  rw [mod_succ256, Nat.add_mul, Nat.mul_assoc]
theorem rows_all (a b : Nat) : a % 256 ^ 32 * b % MM = a * b % MM := by
  rw [← MM_256, Nat.mod_mul_mod]
theorem byC_nought : byC 0 32 = byC 0 0 := by
  apply Array.ext_getElem?
  intro p
  by_cases hp : p < 32
  · rw [byC_get _ _ _ hp, byC_get _ _ _ hp, if_neg (by omega : ¬ 31 - p < 0)]
    split <;> simp [byA]
  · rw [Array.getElem?_eq_none (by rw [byC_size]; omega), Array.getElem?_eq_none (by rw [byC_size]; omega)]
theorem byA_mod (a k : Nat) (h : k < 32) : byA (a % MM) k = byA a k := by
  unfold byA
  have e : MM = 256 ^ k * (256 * 256 ^ (31 - k)) := by
    rw [MM_256, ← Nat.mul_assoc, ← Nat.pow_succ, ← Nat.pow_add]; congr 1; omega
  rw [e, Nat.mod_mul_right_div_self, Nat.mod_mul_right_mod]
theorem byC_congr {a b : Nat} (h : a % MM = b % MM) : byC a 32 = byC b 32 := by
  apply Array.ext_getElem?
  intro p
  by_cases hp : p < 32
  · rw [byC_get _ _ _ hp, byC_get _ _ _ hp, ← byA_mod a _ (by omega), ← byA_mod b _ (by omega), h]
  · rw [Array.getElem?_eq_none (by rw [byC_size]; omega), Array.getElem?_eq_none (by rw [byC_size]; omega)]

end Go.Proofs.YtjmfnafbjfceoaaDoor

/- The reference's Read, by a contract. -/
namespace Go.Proofs.YtjmfnafbjfceoaaDoor
open Go.RowKit
attribute [local go_sem] ix0 ix1 ix2 ix3
theorem byA_num (f : Nat → Nat) : ∀ n q, (∀ k, k < n → f k < 256) → byA (numB f n) q = if q < n then f (n - 1 - q) else 0
  | 0, q, _ => by rw [if_neg (by omega)]; simp [numB, byA]
  | n + 1, 0, h => by
    have := h n (by omega)
    rw [if_pos (by omega), show n + 1 - 1 - 0 = n by omega]
    unfold numB byA
    rw [Nat.pow_zero, Nat.div_one]; omega
  | n + 1, q + 1, h => by
    have h1 := h n (by omega)
    have ih := byA_num f n q (fun k hk => h k (by omega))
    have e : byA (numB f (n + 1)) (q + 1) = byA (numB f n) q := by
      unfold byA
      rw [Nat.pow_succ', ← Nat.div_div_eq_div_mul, show numB f (n + 1) = numB f n * 256 + f n from rfl, show (numB f n * 256 + f n) / 256 = numB f n by omega]
    rw [e, ih]
    by_cases hq : q < n
    · rw [if_pos hq, if_pos (by omega), show n + 1 - 1 - (q + 1) = n - 1 - q by omega]
    · rw [if_neg hq, if_neg (by omega)]
/-- 32 cells: the first k of n bytes, at the end. -/
def rdC (f : Nat → Nat) (n k : Nat) : Array Value := ((List.range 32).map fun p => Value.int .u8 (if 32 - n ≤ p ∧ p < 32 - n + k then ((f (p + n - 32) : Nat) : Int) else 0)).toArray
theorem rdC_get (f : Nat → Nat) (n k p : Nat) (hp : p < 32) : (rdC f n k)[p]? = some (.int .u8 (if 32 - n ≤ p ∧ p < 32 - n + k then ((f (p + n - 32) : Nat) : Int) else 0)) := by
  unfold rdC; simp [hp]
theorem rdC_size (f : Nat → Nat) (n k : Nat) : (rdC f n k).size = 32 := by unfold rdC; simp
theorem rdC_zero (f : Nat → Nat) (n : Nat) : rdC f n 0 = byC 0 0 := by
  apply Array.ext_getElem?
  intro p
  by_cases hp : p < 32
  · rw [rdC_get _ _ _ _ hp, byC_get _ _ _ hp, if_neg (by omega), if_neg (by omega)]
  · rw [Array.getElem?_eq_none (by rw [rdC_size]; omega), Array.getElem?_eq_none (by rw [byC_size]; omega)]
theorem rdC_all (f : Nat → Nat) (n : Nat) (hn : n ≤ 32) (hf : ∀ k, k < n → f k < 256) : rdC f n n = byC (numB f n) 32 := by
  apply Array.ext_getElem?
  intro p
  by_cases hp : p < 32
  · rw [rdC_get _ _ _ _ hp, byC_get _ _ _ hp, if_pos (by omega : 31 - p < 32), byA_num f n _ hf]
    by_cases h : 32 - n ≤ p
    · rw [if_pos ⟨h, by omega⟩, if_pos (by omega), show n - 1 - (31 - p) = p + n - 32 by omega]
    · rw [if_neg (by omega), if_neg (by omega)]; rfl
  · rw [Array.getElem?_eq_none (by rw [rdC_size]; omega), Array.getElem?_eq_none (by rw [byC_size]; omega)]
theorem rdC_set (f : Nat → Nat) (n k : Nat) (hn : n ≤ 32) (hk : k < n) : (rdC f n k).setIfInBounds (32 - n + k) (.int .u8 (f k : Nat)) = rdC f n (k + 1) := by
  apply Array.ext_getElem?
  intro p
  by_cases hp : p < 32
  · rw [Array.getElem?_setIfInBounds, rdC_size, rdC_get _ _ _ _ hp, rdC_get _ _ _ _ hp]
    by_cases h : 32 - n + k = p
    · subst h
      rw [if_pos rfl, if_pos (by omega), if_pos (by omega), show 32 - n + k + n - 32 = k by omega]
    · rw [if_neg h]
      by_cases g : 32 - n ≤ p ∧ p < 32 - n + k
      · rw [if_pos g, if_pos (by omega)]
      · rw [if_neg g, if_neg (by omega)]
  · rw [Array.getElem?_eq_none (by rw [Array.size_setIfInBounds, rdC_size]; omega), Array.getElem?_eq_none (by rw [rdC_size]; omega)]

set_option maxRecDepth 100000 in
set_option maxHeartbeats 1000000 in
theorem rread_any (b o n cap : Nat) (f : Nat → Nat) (w : World) (hn : n ≤ 32) (hb : b < w.heap.size) (hf : BytesAt w b o n f) :
    Calls Tryd.prog 43 #[.slice (some ⟨b, o, none⟩) n cap] w fun e w' => e = .returned (.tuple #[W (numB f n), .int .i64 0]) ∧ Below w.heap.size w w' := by
  have hi : (Tryd.prog.info? 81).map (·.size) = some (byC (numB f n) 32).size := by rw [byC_size]; kernel_rfl
  have HI := Lib.hid hi
  have hu : Tryd.prog.underlying 81 = some (.array 32 5) := by kernel_rfl
  have HU := Lib.hid hu
  clear hi hu
  go_enter Tryd.func43, Tryd.ntmps43
  go_wp2_with fail
  go_loopw [5] (fun i wr => ∃ k : Nat, k ≤ n ∧ i = .int .i64 k ∧ Blk wr (w.heap.size + 1) 81 (rdC f n k) ∧ Blk wr w.heap.size 47 (Wc 0) ∧ Below w.heap.size w wr) (fun i _ => n - (intOf i).toNat)
  case atStart =>
    refine ⟨0, Nat.zero_le _, rfl, ?_, ?_, balloc (balloc (Below.refl _ _) _) _⟩
    · rw [rdC_zero, byC_zero]; exact Blk.newS _ _ _ _
    · have h := (Blk.new w 47 (Wc 0)).alloc (.cells (byC 0 0) 81)
      rw [byC_zero] at h
      simp only [Wc, lb_zero] at h ⊢
      exact h
  case round =>
    obtain ⟨k, hk, rfl, hs, hr, hB⟩ := hrel
    by_cases hlt : k < n
    · obtain ⟨d1, d2⟩ := hf k hlt
      have d := (hB.cell (p := ⟨b, o + k, none⟩) hb).trans d2
      have hfr := frozen_of_row wr _ (32 - n + k) _ _ hs
      have hc := (cell_of_row wr _ _ _ _ _ hs).trans (rdC_get f n k (32 - n + k) (by omega))
      have HS := Lib.hid hs
      have HR := Lib.hid hr
      clear hs hr d2
      have g1 : IntKind.i64.wrap (32 - (n : Int)) = 32 - (n : Int) := IntWalk.i64_in _ (by omega)
      have g2 : IntKind.i64.wrap (32 - (n : Int) + (k : Int)) = 32 - (n : Int) + (k : Int) := IntWalk.i64_in _ (by omega)
      have g3 : (32 - (n : Int) + (k : Int)).toNat = 32 - n + k := by omega
      have g4 : 32 - (n : Int) + (k : Int) < 32 := by omega
      have g5 : (0 : Int) ≤ 32 - (n : Int) + (k : Int) := by omega
      go_wp2
      have G := grown_set' (grown_refl wr (w.heap.size + 1)) (32 - n + k) (.int .u8 ((f k : Nat) : Int))
      have h := heap_setCell_same wr (w.heap.size + 1) (32 - n + k) _ _ (.int .u8 ((f k : Nat) : Int)) HS.out
      rw [rdC_set f n k hn hlt] at h
      exact ⟨⟨k + 1, by omega, by go_num, h, HR.out.kept G (by simp), hB.setCell (p := ⟨w.heap.size + 1, 32 - n + k, none⟩) (by simp) _⟩, by simp [intOf]; omega⟩
    · obtain rfl : k = n := by omega
      rw [rdC_all f k hn (fun j hj => (hf j hj).1)] at hs
      have HS := Lib.hid hs
      have HR := Lib.hid hr
      clear hs hr hf
      go_upto_region 8 with (fail)
      refine wp_region_lit (wpList_load_mid rfl 81 (.tmp 4) rfl (w.heap.size + 1) 0 rfl (byC (numB f k) 32).toList _ HS.out.rangeAt HU.out rfl HI.out ?_)
      go_wp2_with (go_at_call 65; refine (rfrom_any (numB f k) _).mono ?_; rintro e wk ⟨rfl, hk⟩; have hr2 := HR.out.keep hk; have hB2 := bstep hB hk; have r0 := (cell_of_row wk _ 0 _ _ _ hr2).trans (wc_get 0 0 (by omega)); have r1 := (cell_of_row wk _ 1 _ _ _ hr2).trans (wc_get 0 1 (by omega)); have r2 := (cell_of_row wk _ 2 _ _ _ hr2).trans (wc_get 0 2 (by omega)); have r3 := (cell_of_row wk _ 3 _ _ _ hr2).trans (wc_get 0 3 (by omega)); have f0 := frozen_of_row wk _ 0 _ _ hr2; have f1 := frozen_of_row wk _ 1 _ _ hr2; have f2 := frozen_of_row wk _ 2 _ _ hr2; have f3 := frozen_of_row wk _ 3 _ _ hr2; clear hr2)
      exact bodyPost_ret (v := .tuple #[W (numB f k), .int .i64 0]) (by simp [results, Tryd.results43, go_sem, r0, r1, r2, r3]) rfl ⟨rfl, (((hB2.setCell (p := ⟨w.heap.size, 0, none⟩) (by simp) _).setCell (p := ⟨w.heap.size, 1, none⟩) (by simp) _).setCell (p := ⟨w.heap.size, 2, none⟩) (by simp) _).setCell (p := ⟨w.heap.size, 3, none⟩) (by simp) _⟩

theorem rread_long (b o n cap : Nat) (w : World) (hn : 32 < n) (hm : n ≤ 9223372036854775807) :
    Calls Tryd.prog 43 #[.slice (some ⟨b, o, none⟩) n cap] w fun e w' => e = .returned (.tuple #[W 0, .int .i64 3]) ∧ Below w.heap.size w w' := by
  rw [W_zero]
  have hn' : (32 : Int) < (n : Int) := by omega
  go_enter Tryd.func43, Tryd.ntmps43
  go_wp2
  exact bodyPost_ret (v := .tuple #[.agg #[.int .u64 0, .int .u64 0, .int .u64 0, .int .u64 0], .int .i64 3]) (by simp [results, Tryd.results43, go_sem]) rfl ⟨rfl, by first | exact balloc (balloc (Below.refl _ _) _) _ | exact balloc (balloc (balloc (Below.refl _ _) _) _) _ | exact balloc (Below.refl _ _) _⟩
end Go.Proofs.YtjmfnafbjfceoaaDoor

