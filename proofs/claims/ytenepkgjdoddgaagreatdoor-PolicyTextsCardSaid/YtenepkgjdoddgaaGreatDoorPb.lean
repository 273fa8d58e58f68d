/- Texts laid into one: Pb. -/
import Derived.Test.YtenepkgjdoddgaaGreatDoorPa
import Derived.Laws.BitsAllLaws
import Derived.Laws.Rows
import Derived.Deep.MidRow
import Derived.Deep.Cut
import Derived.Deep.RegionLaw
import Derived.IntWalk
import Derived.Deep.RegionHeld
import Derived.Deep.QuietTactic
import Derived.BigQuiet
import Derived.Test.YtenepkgjdoddgaaGreatDoorRows
import Derived.WalkKit
import Derived.WalkSpells
import Derived.WalkLawsBesides
import Derived.Lib.Strings
import Derived.Lib.Slices
import Derived.Lib.Walk
import Derived.Lib.TrimByte
import Derived.Lib.Small
import Derived.Lib.Bytealg
import Derived.Laws.Strings3
import Derived.Laws.BytesArg
import Derived.ScopeJumps
import Derived.Deep.RegionHeld3
/- The reference's words, in plain numbers: sums byte by byte, all bits turned. -/
namespace Go.Proofs.YtenepkgjdoddgaaGreatDoor

/-- The carry of the byte sum ahead of byte k. -/
def cyB (a b k : Nat) : Nat := (a % 256 ^ k + b % 256 ^ k) / 256 ^ k
theorem p256_pos (k : Nat) : 0 < 256 ^ k := Nat.pow_pos (by omega)
theorem cyB_zero (a b : Nat) : cyB a b 0 = 0 := by simp [cyB, Nat.mod_one]
theorem cyB_le (a b k : Nat) : cyB a b k ≤ 1 := by
  have ha := Nat.mod_lt a (p256_pos k)
  have hb := Nat.mod_lt b (p256_pos k)
  have : cyB a b k < 2 := Nat.div_lt_of_lt_mul (by omega)
  omega
theorem byA_add (a b k : Nat) : (cyB a b k + byA a k + byA b k) % 256 = byA (a + b) k := by
  unfold byA cyB
  rw [add_div_split a b _ (p256_pos k), show (a % 256 ^ k + b % 256 ^ k) / 256 ^ k + a / 256 ^ k % 256 + b / 256 ^ k % 256 = a / 256 ^ k % 256 + b / 256 ^ k % 256 + (a % 256 ^ k + b % 256 ^ k) / 256 ^ k by omega]
  omega
theorem mod_succ256 (a k : Nat) : a % 256 ^ (k + 1) = a % 256 ^ k + 256 ^ k * (a / 256 ^ k % 256) := by
  rw [Nat.pow_succ, Nat.mod_mul]
theorem cyB_succ (a b k : Nat) : (cyB a b k + byA a k + byA b k) / 256 = cyB a b (k + 1) := by
  unfold byA cyB
  rw [mod_succ256 a k, mod_succ256 b k, Nat.pow_succ, ← Nat.div_div_eq_div_mul]
  have e : a % 256 ^ k + 256 ^ k * (a / 256 ^ k % 256) + (b % 256 ^ k + 256 ^ k * (b / 256 ^ k % 256)) = (a % 256 ^ k + b % 256 ^ k) + 256 ^ k * (a / 256 ^ k % 256 + b / 256 ^ k % 256) := by rw [Nat.mul_add]; omega
  rw [e, Nat.add_mul_div_left _ _ (p256_pos k)]
  congr 1; omega

/-- All bits turned. -/
def ntN (b : Nat) : Nat := MM - 1 - b % MM
theorem ntN_vl (b : Nat) : ntN b = vl (18446744073709551615 - b % MM / B64 ^ 0 % B64) (18446744073709551615 - b % MM / B64 ^ 1 % B64) (18446744073709551615 - b % MM / B64 ^ 2 % B64) (18446744073709551615 - b % MM / B64 ^ 3 % B64) := by
  have h := vl_lb (b % MM) (Nat.mod_lt _ MM_pos)
  have h0 := Nat.mod_lt (b % MM / B64 ^ 0) B64_pos
  have h1 := Nat.mod_lt (b % MM / B64 ^ 1) B64_pos
  have h2 := Nat.mod_lt (b % MM / B64 ^ 2) B64_pos
  have h3 := Nat.mod_lt (b % MM / B64 ^ 3) B64_pos
  generalize b % MM / B64 ^ 0 % B64 = x0 at *
  generalize b % MM / B64 ^ 1 % B64 = x1 at *
  generalize b % MM / B64 ^ 2 % B64 = x2 at *
  generalize b % MM / B64 ^ 3 % B64 = x3 at *
  unfold ntN
  rw [← h, MM_eq]
  unfold vl at *
  unfold B64 at *
  omega
theorem lb_not (b i : Nat) (hi : i < 4) : lb (ntN b) i = 18446744073709551615 - lb b i := by
  have e := ntN_vl b
  have s : ∀ j, 18446744073709551615 - b % MM / B64 ^ j % B64 < B64 := fun j => by unfold B64; omega
  have g : ∀ j, j < 4 → ((18446744073709551615 - b % MM / B64 ^ j % B64 : Nat) : Int) = 18446744073709551615 - lb b j := fun j hj => by
    have h1 : lb (b % MM) j = lb b j := lb_mod b j hj
    have h2 : b % MM / B64 ^ j % B64 < B64 := Nat.mod_lt _ B64_pos
    rw [← h1]; unfold lb
    unfold B64 at h2 ⊢
    omega
  rw [e]
  match i, hi with
  | 0, _ => rw [vl_0 _ _ _ (s 0)]; exact g 0 (by omega)
  | 1, _ => rw [vl_1 _ _ (s 0) (s 1)]; exact g 1 (by omega)
  | 2, _ => rw [vl_2 _ (s 0) (s 1) (s 2)]; exact g 2 (by omega)
  | 3, _ => rw [vl_3 (s 0) (s 1) (s 2) (s 3)]; exact g 3 (by omega)
/-- The difference by turning and one more. -/
theorem sb_nt (a b : Nat) : a + ntN b + 1 = sb a b := by
  have := Nat.mod_lt b MM_pos
  unfold ntN sb; omega
end Go.Proofs.YtenepkgjdoddgaaGreatDoor

/- The reference of layer word: Of, Not, Bytes, by contracts. -/
namespace Go.Proofs.YtenepkgjdoddgaaGreatDoor
open Go.RowKit
attribute [local go_sem] ix0 ix1 ix2 ix3
theorem xor_max (x : Nat) (h : x < 18446744073709551616) : 18446744073709551615 ^^^ x = 18446744073709551615 - x := by
  have h1 := BitVec.toNat_not (x := BitVec.ofNat 64 x)
  rw [BitVec.not_def, BitVec.toNat_xor, BitVec.toNat_allOnes, BitVec.toNat_ofNat, Nat.mod_eq_of_lt h] at h1
  simpa using h1
theorem not_lb (b i : Nat) : bits .xor .u64 IntKind.u64.max (lb b i) = 18446744073709551615 - lb b i := by
  have h1 : b / B64 ^ i % B64 < 18446744073709551616 := Nat.mod_lt _ B64_pos
  have h := u64_xor_nat 18446744073709551615 (b / B64 ^ i % B64) (by omega) h1
  rw [xor_max _ h1] at h
  have e : IntKind.u64.max = ((18446744073709551615 : Nat) : Int) := by decide
  rw [e]; unfold lb; rw [h]; omega

theorem below_setCells' {B b : Nat} {a : World} (hb : B ≤ b) : ∀ (vs : List Value) (o : Nat) (w : World), Below B a w → Below B a (w.setCells b o vs)
  | [], _, _, h => h
  | v :: vs, o, _, h => below_setCells' hb vs (o + 1) _ (h.setCell (p := ⟨b, o, none⟩) hb v)
theorem byC_one (a k : Nat) : (byC a k).all (·.oneCell') = true := by
  rw [Array.all_eq_true_iff_forall_mem]
  intro v hv
  unfold byC at hv
  simp only [List.mem_toArray, List.mem_map] at hv
  obtain ⟨p, _, rfl⟩ := hv
  rfl
theorem Blk.rangeAt {X : World} {g : Nat} {t : TypeId} {cs : Array Value} (h : Blk X g t cs) : X.rangeAt g 0 cs.toList := fun j v hv => by
  rw [Nat.zero_add]
  exact (cell_of_row X g j _ _ _ h).trans (by simpa using hv)
theorem Blk.there {X : World} {g : Nat} {t : TypeId} {cs : Array Value} (h : Blk X g t cs) (n : Nat) (hn : n ≤ cs.size) : X.there g 0 n := fun j hj => by
  rw [Nat.zero_add]
  refine ⟨?_, frozen_of_row X g j _ _ h⟩
  rw [cell_of_row X g j _ _ _ h, Array.getElem?_eq_getElem (by omega)]
  rfl

set_option maxRecDepth 100000 in
set_option maxHeartbeats 1000000 in
theorem rbytes_any (a : Nat) (w : World) :
    Calls Tryz.prog 74 #[W a] w fun e w' => e = .returned (.agg (byC a 32)) ∧ Below w.heap.size w w' := by
  go_enter Tryz.func74, Tryz.ntmps74
  go_wp2
  go_loopw [4] (fun i wr => ∃ k : Nat, k ≤ 32 ∧ i = .int .i64 k ∧ Blk wr (w.heap.size + 1 + 1) 118 (byC a k) ∧ Blk wr w.heap.size 58 (Wc a) ∧ Blk wr (w.heap.size + 1) 118 (byC a 0) ∧ Below w.heap.size w wr) (fun i _ => 32 - (intOf i).toNat)
  case atStart => exact ⟨0, Nat.zero_le _, rfl, by rw [← byC_zero a]; have h := Blk.new ((w.alloc (.cells (Wc a) 58)).alloc (.cells (byC a 0) 118)) 118 (byC a 0); rw [World.size_alloc, World.size_alloc] at h; exact h, ((Blk.new w _ _).alloc _).alloc _, by rw [← byC_zero a]; have h := (Blk.new (w.alloc (.cells (Wc a) 58)) 118 (byC a 0)).alloc (.cells (byC a 0) 118); rw [World.size_alloc] at h; exact h, balloc (balloc (balloc (Below.refl _ _) _) _) _⟩
  case round =>
    obtain ⟨k, hk, rfl, hs, hr, hz, hB⟩ := hrel
    by_cases hlt : k < 32
    · have hc : wr.cell? ⟨w.heap.size, k / 8, none⟩ = some (.int .u64 (lb a (k / 8))) := (cell_of_row wr _ _ _ _ _ hr).trans (by
        have : k / 8 = 0 ∨ k / 8 = 1 ∨ k / 8 = 2 ∨ k / 8 = 3 := by omega
        rcases this with h | h | h | h <;> rw [h] <;> rfl)
      have hd : wr.cell? ⟨w.heap.size + 1 + 1, 31 - k, none⟩ = some (.int .u8 (if 31 - (31 - k) < k then ((byA a (31 - (31 - k)) : Nat) : Int) else 0)) := (cell_of_row wr _ _ _ _ _ hs).trans (byC_get a k _ (by omega))
      have hf := frozen_of_row wr _ (31 - k) _ _ hs
      have HS := Lib.hid hs
      have HR := Lib.hid hr
      have HZ := Lib.hid hz
      clear hs hr hz
      go_wp2
      rw [show 8 * (k % 8) = k % 8 * 8 by omega, by_lb]
      refine ⟨⟨k + 1, by omega, by go_num, ?_, HR.out.kept (grown_set' (grown_refl wr (w.heap.size + 1 + 1)) (31 - k) _) (by simp <;> omega), HZ.out.kept (grown_set' (grown_refl wr (w.heap.size + 1 + 1)) (31 - k) _) (by simp <;> omega), hB.setCell (p := ⟨w.heap.size + 1 + 1, 31 - k, none⟩) (by simp; omega) _⟩, by simp [intOf]; omega⟩
      have h := heap_setCell_same wr (w.heap.size + 1 + 1) (31 - k) _ _ (.int .u8 (byA a k : Nat)) HS.out
      rw [byC_set a k hlt] at h
      exact h
    · obtain rfl : k = 32 := by omega
      have HS := Lib.hid hs
      have HZ := Lib.hid hz
      clear hs hr hz
      have hi : (Tryz.prog.info? 118).map (·.size) = some (byC a 32).size := by rw [byC_size]; kernel_rfl
      have hu : Tryz.prog.underlying 118 = some (.array 32 5) := by kernel_rfl
      have HI := Lib.hid hi
      have HU := Lib.hid hu
      clear hi hu
      go_upto_region 6 with (fail)
      refine wp_region_lit (wpList_load_mid rfl 118 (.tmp 3) rfl (w.heap.size + 1 + 1) 0 rfl (byC a 32).toList _ HS.out.rangeAt HU.out rfl HI.out ?_)
      have ht : wr.there (w.heap.size + 1) 0 (byC a 32).size := HZ.out.there _ (by rw [byC_size, byC_size]; exact Nat.le_refl _)
      refine wpList_store_mid rfl 118 (.tmp 2) (.tmp 22) rfl (w.heap.size + 1) 0 (byC a 32) rfl rfl ht HI.out (byC_one a 32) (wpList_nil ?_)
      have hr : (loadVar 118 ⟨w.heap.size + 1, 0, none⟩).run Tryz.prog (wr.setCells (w.heap.size + 1) 0 (byC a 32).toList) = .ok (.agg (byC a 32)) (wr.setCells (w.heap.size + 1) 0 (byC a 32).toList) :=
        run_loadVar_mid _ _ _ _ (byC a 32).toList _ (World.rangeAt_setCells_same _ _ _ _ ht) HU.out rfl HI.out
      have hB' := below_setCells' (B := w.heap.size) (b := w.heap.size + 1) (by omega) (byC a 32).toList 0 wr hB
      clear ht
      generalize wr.setCells (w.heap.size + 1) 0 (byC a 32).toList = wz at *
      go_wp2
      exact bodyPost_ret (v := .agg (byC a 32)) (by simp [results, Tryz.results74, Act.put, asAddr, hr]) rfl ⟨rfl, hB'⟩
end Go.Proofs.YtenepkgjdoddgaaGreatDoor

/- The reference of layer word: From, by a contract. -/
namespace Go.Proofs.YtenepkgjdoddgaaGreatDoor
open Go.RowKit
attribute [local go_sem] ix0 ix1 ix2 ix3
theorem p256_split (k : Nat) : 256 ^ k = B64 ^ (k / 8) * 256 ^ (k % 8) := by
  rw [B64_256, ← Nat.pow_mul, ← Nat.pow_add, Nat.div_add_mod]
theorem low_lt (a k : Nat) : a % 256 ^ k / B64 ^ (k / 8) < 256 ^ (k % 8) := by
  apply Nat.div_lt_of_lt_mul
  rw [← p256_split]
  exact Nat.mod_lt _ (p256_pos k)
theorem p256_le (k : Nat) : 256 ^ (k % 8) * 256 ≤ B64 := by
  rw [← Nat.pow_succ, B64_256]
  exact Nat.pow_le_pow_right (by omega) (by have := Nat.mod_lt k (show 0 < 8 by omega); omega)
theorem low_succ (a k : Nat) : a % 256 ^ (k + 1) / B64 ^ (k / 8) = a % 256 ^ k / B64 ^ (k / 8) + 256 ^ (k % 8) * byA a k := by
  rw [mod_succ256]
  conv => lhs; rw [show 256 ^ k * (a / 256 ^ k % 256) = B64 ^ (k / 8) * (256 ^ (k % 8) * (a / 256 ^ k % 256)) by rw [← Nat.mul_assoc, ← p256_split]]
  rw [Nat.add_mul_div_left _ _ (pow_pos' _)]; rfl
/-- The limb that byte k goes into. -/
theorem lb_low (a k : Nat) : lb (a % 256 ^ k) (k / 8) = ((a % 256 ^ k / B64 ^ (k / 8) : Nat) : Int) := by
  unfold lb
  rw [Nat.mod_eq_of_lt]
  have h1 := low_lt a k
  have h2 := p256_le k
  have h3 := p256_pos (k % 8)
  omega
theorem lb_low_succ (a k : Nat) : lb (a % 256 ^ (k + 1)) (k / 8) = ((a % 256 ^ k / B64 ^ (k / 8) + 256 ^ (k % 8) * byA a k : Nat) : Int) := by
  unfold lb
  rw [low_succ, Nat.mod_eq_of_lt]
  have h1 := low_lt a k
  have h2 := p256_le k
  have h4 := byA_lt a k
  have h5 : 256 ^ (k % 8) * byA a k ≤ 256 ^ (k % 8) * 255 := Nat.mul_le_mul_left _ (by omega)
  omega
/-- The other limbs stay. -/
theorem lb_other (a k j : Nat) (h : j ≠ k / 8) : lb (a % 256 ^ (k + 1)) j = lb (a % 256 ^ k) j := by
  unfold lb
  congr 1
  rcases Nat.lt_or_gt_of_ne h with h | h
  · -- below: whole already
    rw [mod_succ256]
    generalize a / 256 ^ k % 256 = d
    have e : 256 ^ k * d = B64 ^ j * (B64 * (B64 ^ (k / 8 - j - 1) * 256 ^ (k % 8) * d)) := by
      have e1 : B64 ^ (k / 8) = B64 ^ j * B64 * B64 ^ (k / 8 - j - 1) := by
        rw [← Nat.pow_succ, ← Nat.pow_add]; congr 1; omega
      rw [p256_split k, e1]
      have e2 : ∀ x y z u v : Nat, x * y * z * u * v = x * (y * (z * u * v)) := fun x y z u v => by simp only [Nat.mul_assoc]
      exact e2 _ _ _ _ _
    rw [e, Nat.add_mul_div_left _ _ (pow_pos' j), Nat.add_mul_mod_self_left]
  · -- above: nought
    have h1 : a % 256 ^ (k + 1) < B64 ^ j := by
      refine Nat.lt_of_lt_of_le (Nat.mod_lt _ (p256_pos _)) ?_
      rw [B64_256, ← Nat.pow_mul]
      exact Nat.pow_le_pow_right (by omega) (by omega)
    have h2 : a % 256 ^ k < B64 ^ j := by
      refine Nat.lt_of_lt_of_le (Nat.mod_lt _ (p256_pos _)) ?_
      rw [B64_256, ← Nat.pow_mul]
      exact Nat.pow_le_pow_right (by omega) (by omega)
    rw [Nat.div_eq_of_lt h1, Nat.div_eq_of_lt h2]

theorem p256_two (r : Nat) : 256 ^ r = 2 ^ (8 * r) := by rw [Nat.pow_mul]
theorem or_low (a k : Nat) : bits .or .u64 (lb (a % 256 ^ k) (k / 8)) (IntKind.u64.wrap (IntKind.u64.wrap ((byA a k : Nat) : Int) * 2 ^ (8 * (k % 8)))) = lb (a % 256 ^ (k + 1)) (k / 8) := by
  have h1 := low_lt a k
  have h2 := p256_le k
  have h3 := p256_pos (k % 8)
  have h4 := byA_lt a k
  have h5 : 256 ^ (k % 8) * byA a k ≤ 256 ^ (k % 8) * 255 := Nat.mul_le_mul_left _ (by omega)
  have hB : B64 = 18446744073709551616 := rfl
  have e0 : IntKind.u64.wrap ((byA a k : Nat) : Int) = ((byA a k : Nat) : Int) := IntWalk.u64_in _ (by omega)
  rw [e0]
  have e : ((byA a k : Nat) : Int) * 2 ^ (8 * (k % 8)) = ((256 ^ (k % 8) * byA a k : Nat) : Int) := by
    rw [p256_two, Nat.mul_comm (2 ^ (8 * (k % 8)))]; simp
  rw [e, IntWalk.u64_in _ (by omega), lb_low, lb_low_succ, u64_or_nat _ _ (by omega) (by omega), Nat.or_comm]
  rw [p256_two (k % 8)] at h1 ⊢
  rw [← Nat.two_pow_add_eq_or_of_lt h1, Nat.add_comm]
theorem wc_set (a k : Nat) (hk : k < 32) : (Wc (a % 256 ^ k)).setIfInBounds (k / 8) (.int .u64 (lb (a % 256 ^ (k + 1)) (k / 8))) = Wc (a % 256 ^ (k + 1)) := by
  have o := lb_other a k
  have h4 : k / 8 = 0 ∨ k / 8 = 1 ∨ k / 8 = 2 ∨ k / 8 = 3 := by omega
  unfold Wc
  rcases h4 with h | h | h | h <;> rw [h] at o ⊢
  · rw [o 1 (by omega), o 2 (by omega), o 3 (by omega)]; rfl
  · rw [o 0 (by omega), o 2 (by omega), o 3 (by omega)]; rfl
  · rw [o 0 (by omega), o 1 (by omega), o 3 (by omega)]; rfl
  · rw [o 0 (by omega), o 1 (by omega), o 2 (by omega)]; rfl
theorem MM_256 : MM = 256 ^ 32 := by unfold MM; rw [B64_256, ← Nat.pow_mul]
theorem wc_get (a k : Nat) (hk : k < 4) : (Wc a)[k]? = some (.int .u64 (lb a k)) := by
  match k, hk with
  | 0, _ | 1, _ | 2, _ | 3, _ => rfl

set_option maxRecDepth 100000 in
set_option maxHeartbeats 1000000 in
theorem rfrom_any (a : Nat) (w : World) :
    Calls Tryz.prog 110 #[.agg (byC a 32)] w fun e w' => e = .returned (W a) ∧ Below w.heap.size w w' := by
  go_enter Tryz.func110, Tryz.ntmps110
  go_wp2_with fail
  go_loopw [4] (fun i wr => ∃ k : Nat, k ≤ 32 ∧ i = .int .i64 k ∧ Blk wr (w.heap.size + 1 + 1) 58 (Wc (a % 256 ^ k)) ∧ Blk wr w.heap.size 118 (byC a 32) ∧ Blk wr (w.heap.size + 1) 58 #[.int .u64 0, .int .u64 0, .int .u64 0, .int .u64 0] ∧ Below w.heap.size w wr) (fun i _ => 32 - (intOf i).toNat)
  case atStart =>
    refine ⟨0, Nat.zero_le _, rfl, ?_, ?_, ?_, ?_⟩
    · have h := Blk.new ((w.alloc (.cells (byC a 32) 118)).alloc (.cells #[.int .u64 0, .int .u64 0, .int .u64 0, .int .u64 0] 58)) 58 (Wc (a % 256 ^ 0))
      rw [Nat.pow_zero, Nat.mod_one] at h ⊢
      unfold Wc at h ⊢
      simp only [lb_zero] at h ⊢
      rw [World.size_alloc, World.size_alloc] at h
      exact h
    · exact ((Blk.new w _ _).alloc _).alloc _
    · have h := (Blk.new (w.alloc (.cells (byC a 32) 118)) 58 #[.int .u64 0, .int .u64 0, .int .u64 0, .int .u64 0]).alloc (.cells #[.int .u64 0, .int .u64 0, .int .u64 0, .int .u64 0] 58)
      rw [World.size_alloc] at h
      exact h
    · exact balloc (balloc (balloc (Below.refl _ _) _) _) _
  case round =>
    obtain ⟨k, hk, rfl, hs, hr, hz, hB⟩ := hrel
    by_cases hlt : k < 32
    · have hc := (cell_of_row wr _ _ _ _ _ hs).trans (wc_get (a % 256 ^ k) (k / 8) (by omega))
      have hd : wr.cell? ⟨w.heap.size, 31 - k, none⟩ = some (.int .u8 (if 31 - (31 - k) < 32 then ((byA a (31 - (31 - k)) : Nat) : Int) else 0)) := (cell_of_row wr _ _ _ _ _ hr).trans (byC_get a 32 _ (by omega))
      rw [show 31 - (31 - k) = k by omega, if_pos hlt] at hd
      have hf := frozen_of_row wr _ (k / 8) _ _ hs
      have HS := Lib.hid hs
      have HR := Lib.hid hr
      have HZ := Lib.hid hz
      clear hs hr hz
      have g1 : IntKind.i64.wrap ((k : Int) / 8) = (k : Int) / 8 := IntWalk.i64_in _ (by omega)
      have g2 : (0 : Int) ≤ (k : Int) / 8 := by omega
      have g3 : (k : Int) / 8 < 4 := by omega
      have g4 : ((k : Int) / 8).toNat = k / 8 := by omega
      have g5 : IntKind.i64.wrap (31 - (k : Int)) = 31 - (k : Int) := IntWalk.i64_in _ (by omega)
      have g6 : (0 : Int) ≤ 31 - (k : Int) := by omega
      have g7 : 31 - (k : Int) < 32 := by omega
      have g8 : (31 - (k : Int)).toNat = 31 - k := by omega
      have g9 : (k : Int).tmod 8 = (k : Int) % 8 := Int.tmod_eq_emod_of_nonneg (by omega)
      have g10 : IntKind.i64.wrap (8 * ((k : Int) % 8)) = 8 * ((k : Int) % 8) := IntWalk.i64_in _ (by omega)
      have g11 : IntKind.u64.wrap (8 * ((k : Int) % 8)) = 8 * ((k : Int) % 8) := IntWalk.u64_in _ (by omega)
      have g12 : (k : Int) ≤ 31 := by omega
      have g13 : (0 : Int) ≤ (k : Int) % 8 := by omega
      have g14 : (0 : Int) ≤ 8 * ((k : Int) % 8) := by omega
      have g15 : (8 * ((k : Int) % 8)).toNat = 8 * (k % 8) := by omega
      go_wp2_with fail
      go_region_law (fail)
      all_goals go_wp2
      all_goals rw [or_low]
      all_goals
        have G := grown_set' (grown_refl wr (w.heap.size + 1 + 1)) (k / 8) (.int .u64 (lb (a % 256 ^ (k + 1)) (k / 8)))
        have h := heap_setCell_same wr (w.heap.size + 1 + 1) (k / 8) _ _ (.int .u64 (lb (a % 256 ^ (k + 1)) (k / 8))) HS.out
        rw [wc_set a k hlt] at h
        have hR2 := HR.out.kept G (by simp <;> omega)
        have hZ2 := HZ.out.kept G (by simp <;> omega)
        exact ⟨⟨k + 1, by omega, by go_num, h, hR2, hZ2, (hB.setCell (p := ⟨w.heap.size + 1 + 1, k / 8, none⟩) (by simp; omega) _).drew⟩, by simp [intOf]; omega⟩
    · obtain rfl : k = 32 := by omega
      rw [← MM_256] at hs
      have e : Wc (a % MM) = Wc a := by unfold Wc; rw [lb_mod a 0 (by omega), lb_mod a 1 (by omega), lb_mod a 2 (by omega), lb_mod a 3 (by omega)]
      rw [e] at hs
      have c0 := (cell_of_row wr _ 0 _ _ _ hs).trans (wc_get a 0 (by omega))
      have c1 := (cell_of_row wr _ 1 _ _ _ hs).trans (wc_get a 1 (by omega))
      have c2 := (cell_of_row wr _ 2 _ _ _ hs).trans (wc_get a 2 (by omega))
      have c3 := (cell_of_row wr _ 3 _ _ _ hs).trans (wc_get a 3 (by omega))
      have r0 := cell_of_row wr _ 0 _ _ _ hz
      have r1 := cell_of_row wr _ 1 _ _ _ hz
      have r2 := cell_of_row wr _ 2 _ _ _ hz
      have r3 := cell_of_row wr _ 3 _ _ _ hz
      have f0 := frozen_of_row wr _ 0 _ _ hz
      have f1 := frozen_of_row wr _ 1 _ _ hz
      have f2 := frozen_of_row wr _ 2 _ _ hz
      have f3 := frozen_of_row wr _ 3 _ _ hz
      clear hs hr hz e
      go_wp2
      exact bodyPost_ret (v := W a) (by simp [results, Tryz.results110, go_sem, r0, r1, r2, r3]) rfl ⟨rfl, (((hB.setCell (p := ⟨w.heap.size + 1, 0, none⟩) (by simp) _).setCell (p := ⟨w.heap.size + 1, 1, none⟩) (by simp) _).setCell (p := ⟨w.heap.size + 1, 2, none⟩) (by simp) _).setCell (p := ⟨w.heap.size + 1, 3, none⟩) (by simp) _⟩
end Go.Proofs.YtenepkgjdoddgaaGreatDoor

/- The reference of layer word: Add, the cells of the loop (the walk is not written yet). -/
namespace Go.Proofs.YtenepkgjdoddgaaGreatDoor
open Go.RowKit

/-- 32 cells: the lowest k bytes of the sum, above them a's. -/
def adW (a b k : Nat) : Array Value := ((List.range 32).map fun p => Value.int .u8 (if 31 - p < k then ((byA (a + b) (31 - p) : Nat) : Int) else ((byA a (31 - p) : Nat) : Int))).toArray
theorem adW_get (a b k p : Nat) (hp : p < 32) : (adW a b k)[p]? = some (.int .u8 (if 31 - p < k then ((byA (a + b) (31 - p) : Nat) : Int) else ((byA a (31 - p) : Nat) : Int))) := by
  unfold adW; simp [hp]
theorem adW_size (a b k : Nat) : (adW a b k).size = 32 := by unfold adW; simp
theorem adW_zero (a b : Nat) : adW a b 0 = byC a 32 := by
  apply Array.ext_getElem?
  intro p
  by_cases hp : p < 32
  · rw [adW_get _ _ _ _ hp, byC_get _ _ _ hp, if_neg (by omega), if_pos (by omega)]
  · rw [Array.getElem?_eq_none (by rw [adW_size]; omega), Array.getElem?_eq_none (by rw [byC_size]; omega)]
theorem adW_all (a b : Nat) : adW a b 32 = byC (a + b) 32 := by
  apply Array.ext_getElem?
  intro p
  by_cases hp : p < 32
  · rw [adW_get _ _ _ _ hp, byC_get _ _ _ hp, if_pos (by omega), if_pos (by omega)]
  · rw [Array.getElem?_eq_none (by rw [adW_size]; omega), Array.getElem?_eq_none (by rw [byC_size]; omega)]
theorem adW_set (a b k : Nat) (hk : k < 32) : (adW a b k).setIfInBounds (31 - k) (.int .u8 (byA (a + b) k : Nat)) = adW a b (k + 1) := by
  apply Array.ext_getElem?
  intro p
  by_cases hp : p < 32
  · rw [Array.getElem?_setIfInBounds, adW_size, adW_get _ _ _ _ hp, adW_get _ _ _ _ hp]
    by_cases h : 31 - k = p
    · subst h
      rw [if_pos rfl, if_pos (by omega), if_pos (by omega), show 31 - (31 - k) = k from by omega]
    · rw [if_neg h]
      by_cases g : 31 - p < k
      · rw [if_pos g, if_pos (by omega)]
      · rw [if_neg g, if_neg (by omega)]
  · rw [Array.getElem?_eq_none (by rw [Array.size_setIfInBounds, adW_size]; omega), Array.getElem?_eq_none (by rw [adW_size]; omega)]

end Go.Proofs.YtenepkgjdoddgaaGreatDoor

/- The reference of layer word: Add, by a contract. -/
namespace Go.Proofs.YtenepkgjdoddgaaGreatDoor
open Go.RowKit
attribute [local go_sem] ix0 ix1 ix2 ix3
theorem Blk.keep {X Y : World} {g : Nat} {t : TypeId} {cs : Array Value} (h : Blk X g t cs) (k : Below X.heap.size X Y) : Blk Y g t cs := (k.block g h.lt).trans h
theorem rstep {w W w1 : World} (k : Below W.heap.size W w1) (h : Below w.heap.size w W) : Below w.heap.size w w1 := bstep h k
theorem Blk.drewR {X : World} {g : Nat} {t : TypeId} {cs : Array Value} (h : Blk X g t cs) : Blk X.drew g t cs := h
theorem Blk.newS (X : World) (o : Obj) (t : TypeId) (cs : Array Value) : Blk ((X.alloc o).alloc (.cells cs t)) (X.heap.size + 1) t cs := by
  have h := Blk.new (X.alloc o) t cs
  rwa [World.size_alloc] at h
theorem join2 {C : Nat → Nat → World → Prop} {G : Prop} (P : Nat → Nat → World → Prop) (main : (∀ X Y wz, C X Y wz → P X Y wz) → G) (hrest : ∀ X Y wz, C X Y wz → P X Y wz) : G := main hrest
theorem World.size_drew' (w : World) : w.drew.heap.size = w.heap.size := rfl
theorem blk_setCells_any (b : Nat) (t : TypeId) : ∀ (vs : List Value) (o : Nat) (w : World) (cs : Array Value), Blk w b t cs → ∃ cs', cs'.size = cs.size ∧ Blk (w.setCells b o vs) b t cs'
  | [], _, _, cs, h => ⟨cs, rfl, h⟩
  | v :: vs, o, w, cs, h => by
    obtain ⟨cs', h1, h2⟩ := blk_setCells_any b t vs (o + 1) (w.setCell ⟨b, o, none⟩ v) (cs.setIfInBounds o v) (heap_setCell_same w b o _ _ v h)
    exact ⟨cs', by rw [h1, Array.size_setIfInBounds], h2⟩
/-- A whole block is laid anew. -/
theorem blk_setCells {w : World} {b : Nat} {t : TypeId} {cs : Array Value} (h : Blk w b t cs) (vs : Array Value) (hs : vs.size = cs.size) (_h1 : vs.all (·.oneCell') = true) : Blk (w.setCells b 0 vs.toList) b t vs := by
  obtain ⟨cs', h1, h2⟩ := blk_setCells_any b t vs.toList 0 w cs h
  have h3 := World.rangeAt_setCells_same w b 0 vs.toList (h.there _ (by rw [Array.length_toList, hs]; exact Nat.le_refl _))
  have e : cs' = vs := by
    apply Array.ext_getElem?
    intro j
    by_cases hj : j < vs.size
    · have h4 := h3 j vs[j] (by simp [hj])
      rw [Nat.zero_add] at h4
      rw [← cell_of_row _ b j _ _ _ h2, h4, Array.getElem?_eq_getElem hj]
    · rw [Array.getElem?_eq_none (by omega), Array.getElem?_eq_none (by omega)]
  rw [← e]; rw [e] at h2 ⊢; exact h2
theorem blk_setCells_far {g : Nat} {t : TypeId} {cs : Array Value} {w : World} (h : Blk w g t cs) (b : Nat) : ∀ (o : Nat) (vs : List Value), g ≠ b → Blk (w.setCells b o vs) g t cs := by
  intro o vs hne
  induction vs generalizing o w with
  | nil => exact h
  | cons v vs ih => exact ih ((Below.heap_setCell w ⟨b, o, none⟩ v g hne).trans h) (o + 1)

end Go.Proofs.YtenepkgjdoddgaaGreatDoor

/- The reference of layer word: Sub, Order, Small, by contracts. -/
namespace Go.Proofs.YtenepkgjdoddgaaGreatDoor
open Go.RowKit
attribute [local go_sem] ix0 ix1 ix2 ix3
theorem rstepB {B : Nat} {W W1 w1 : World} (hB : B ≤ W.heap.size) (k : Below W1.heap.size W1 w1) (h : Below B W W1) : Below B W w1 := h.trans (k.mono (Nat.le_trans hB h.size))
theorem wc_one (n : Nat) : (Wc n).all (·.oneCell') = true := by
  rw [Array.all_eq_true_iff_forall_mem]
  intro v hv
  unfold Wc at hv
  simp only [List.mem_toArray, List.mem_cons, List.not_mem_nil, or_false] at hv
  rcases hv with rfl | rfl | rfl | rfl <;> rfl
theorem info_word : (Tryz.prog.info? 58).map (·.size) = some 4 := by kernel_rfl

end Go.Proofs.YtenepkgjdoddgaaGreatDoor

/- The reference of layer word: Mul, by a contract. -/
namespace Go.Proofs.YtenepkgjdoddgaaGreatDoor
open Go.RowKit
attribute [local go_sem] ix0 ix1 ix2 ix3
/-! One row of the product: S + 256^i * (d * b), byte by byte. -/
def cyM (S d b i k : Nat) : Nat := (S % 256 ^ (i + k) + 256 ^ i * (d * (b % 256 ^ k))) / 256 ^ (i + k)
theorem cyM_zero (S d b i : Nat) : cyM S d b i 0 = 0 := by
  unfold cyM
  rw [Nat.pow_zero, Nat.mod_one, Nat.mul_zero, Nat.mul_zero, Nat.add_zero, Nat.add_zero]
  exact Nat.div_eq_of_lt (Nat.mod_lt _ (p256_pos i))
theorem mul_mid (Q d x y : Nat) : Q * (d * (x + y)) = Q * (d * x) + Q * (d * y) := by rw [Nat.mul_add, Nat.mul_add]
theorem row_next (S d b i k : Nat) : S % 256 ^ (i + (k + 1)) + 256 ^ i * (d * (b % 256 ^ (k + 1))) = (S % 256 ^ (i + k) + 256 ^ i * (d * (b % 256 ^ k))) + 256 ^ (i + k) * (byA S (i + k) + d * byA b k) := by
  unfold byA
  rw [← Nat.add_assoc i k 1, mod_succ256 S (i + k), mod_succ256 b k, mul_mid, Nat.mul_add (256 ^ (i + k))]
  have e : 256 ^ i * (d * (256 ^ k * (b / 256 ^ k % 256))) = 256 ^ (i + k) * (d * (b / 256 ^ k % 256)) := by
    rw [Nat.pow_add, Nat.mul_assoc, Nat.mul_left_comm d]
  rw [e]; omega
theorem cyM_succ (S d b i k : Nat) : (cyM S d b i k + byA S (i + k) + d * byA b k) / 256 = cyM S d b i (k + 1) := by
  unfold cyM
  rw [row_next, ← Nat.add_assoc i k 1, Nat.pow_succ 256 (i + k), ← Nat.div_div_eq_div_mul, Nat.add_mul_div_left _ _ (p256_pos _), Nat.add_assoc]
theorem byA_row (S d b i k : Nat) : (cyM S d b i k + byA S (i + k) + d * byA b k) % 256 = byA (S + 256 ^ i * (d * b)) (i + k) := by
  have hS := Nat.div_add_mod S (256 ^ (i + (k + 1)))
  have hb := Nat.div_add_mod b (256 ^ (k + 1))
  generalize S / 256 ^ (i + (k + 1)) = q at hS
  generalize b / 256 ^ (k + 1) = q2 at hb
  have e : S + 256 ^ i * (d * b) = (S % 256 ^ (i + k) + 256 ^ i * (d * (b % 256 ^ k))) + 256 ^ (i + k) * (byA S (i + k) + d * byA b k + 256 * (q + d * q2)) := by
    have h1 := row_next S d b i k
    have h2 : 256 ^ i * (d * b) = 256 ^ i * (d * (b % 256 ^ (k + 1))) + 256 ^ (i + k) * (256 * (d * q2)) := by
      conv => lhs; rw [← hb]
      rw [Nat.add_comm, mul_mid]
      congr 1
      rw [Nat.pow_succ, Nat.pow_add, Nat.mul_assoc (256 ^ k), Nat.mul_left_comm d, Nat.mul_left_comm d, Nat.mul_assoc]
    have h3 : 256 ^ (i + (k + 1)) * q = 256 ^ (i + k) * (256 * q) := by
      rw [← Nat.add_assoc, Nat.pow_succ, Nat.mul_assoc]
    have h4 := Nat.mul_add (256 ^ (i + k)) (byA S (i + k) + d * byA b k) (256 * (q + d * q2))
    have h5 : 256 ^ (i + k) * (256 * (q + d * q2)) = 256 ^ (i + k) * (256 * q) + 256 ^ (i + k) * (256 * (d * q2)) := by rw [Nat.mul_add 256, Nat.mul_add]
    rw [h4, h5, h2]
    omega
  unfold byA cyM at *
  rw [e, Nat.add_mul_div_left _ _ (p256_pos _)]
  omega
theorem cyM_lt (S d b i k : Nat) (hd : d < 256) : cyM S d b i k < 256 := by
  unfold cyM
  apply Nat.div_lt_of_lt_mul
  have h1 := Nat.mod_lt S (p256_pos (i + k))
  have h2 := Nat.mod_lt b (p256_pos k)
  have h3 : d * (b % 256 ^ k) ≤ 255 * 256 ^ k := Nat.mul_le_mul (by omega) (by omega)
  have h4 : 256 ^ i * (d * (b % 256 ^ k)) ≤ 256 ^ i * (255 * 256 ^ k) := Nat.mul_le_mul_left _ h3
  have h5 : 256 ^ i * (255 * 256 ^ k) = 255 * 256 ^ (i + k) := by rw [Nat.mul_left_comm, ← Nat.pow_add]
  omega
/-- The bytes below the row's place stay. -/
theorem byA_low (S T i q : Nat) (hq : q < i) : byA (S + 256 ^ i * T) q = byA S q := by
  unfold byA
  have e : 256 ^ i * T = 256 ^ q * (256 * (256 ^ (i - q - 1) * T)) := by
    rw [← Nat.mul_assoc, ← Nat.mul_assoc, ← Nat.pow_succ, ← Nat.pow_add]; congr 2; omega
  rw [e, Nat.add_mul_div_left _ _ (p256_pos _)]; omega
theorem adW_low (S T i : Nat) : adW S (256 ^ i * T) i = byC S 32 := by
  apply Array.ext_getElem?
  intro p
  by_cases hp : p < 32
  · rw [adW_get _ _ _ _ hp, byC_get _ _ _ hp, if_pos (by omega : 31 - p < 32)]
    by_cases h : 31 - p < i
    · rw [if_pos h, byA_low _ _ _ _ h]
    · rw [if_neg h]
  · rw [Array.getElem?_eq_none (by rw [adW_size]; omega), Array.getElem?_eq_none (by rw [byC_size]; omega)]
/-- The rows: what a's low bytes come to. -/
theorem rows_next (a b i : Nat) : a % 256 ^ i * b + 256 ^ i * (byA a i * b) = a % 256 ^ (i + 1) * b := by
  unfold byA
  rw [mod_succ256, Nat.add_mul, Nat.mul_assoc]
theorem rows_all (a b : Nat) : a % 256 ^ 32 * b % MM = a * b % MM := by
  rw [← MM_256, Nat.mod_mul_mod]
theorem byC_nought : byC 0 32 = byC 0 0 := by
  apply Array.ext_getElem?
  intro p
  by_cases hp : p < 32
  · rw [byC_get _ _ _ hp, byC_get _ _ _ hp, if_neg (by omega : ¬ 31 - p < 0)]
    split <;> simp [byA]
  · rw [Array.getElem?_eq_none (by rw [byC_size]; omega), Array.getElem?_eq_none (by rw [byC_size]; omega)]
theorem byA_mod (a k : Nat) (h : k < 32) : byA (a % MM) k = byA a k := by
  unfold byA
  have e : MM = 256 ^ k * (256 * 256 ^ (31 - k)) := by
    rw [MM_256, ← Nat.mul_assoc, ← Nat.pow_succ, ← Nat.pow_add]; congr 1; omega
  rw [e, Nat.mod_mul_right_div_self, Nat.mod_mul_right_mod]
theorem byC_congr {a b : Nat} (h : a % MM = b % MM) : byC a 32 = byC b 32 := by
  apply Array.ext_getElem?
  intro p
  by_cases hp : p < 32
  · rw [byC_get _ _ _ hp, byC_get _ _ _ hp, ← byA_mod a _ (by omega), ← byA_mod b _ (by omega), h]
  · rw [Array.getElem?_eq_none (by rw [byC_size]; omega), Array.getElem?_eq_none (by rw [byC_size]; omega)]

end Go.Proofs.YtenepkgjdoddgaaGreatDoor

/- The reference's Read, by a contract. -/
namespace Go.Proofs.YtenepkgjdoddgaaGreatDoor
open Go.RowKit
attribute [local go_sem] ix0 ix1 ix2 ix3
theorem byA_num (f : Nat → Nat) : ∀ n q, (∀ k, k < n → f k < 256) → byA (numB f n) q = if q < n then f (n - 1 - q) else 0
  | 0, q, _ => by rw [if_neg (by omega)]; simp [numB, byA]
  | n + 1, 0, h => by
    have := h n (by omega)
    rw [if_pos (by omega), show n + 1 - 1 - 0 = n by omega]
    unfold numB byA
    rw [Nat.pow_zero, Nat.div_one]; omega
  | n + 1, q + 1, h => by
    have h1 := h n (by omega)
    have ih := byA_num f n q (fun k hk => h k (by omega))
    have e : byA (numB f (n + 1)) (q + 1) = byA (numB f n) q := by
      unfold byA
      rw [Nat.pow_succ', ← Nat.div_div_eq_div_mul, show numB f (n + 1) = numB f n * 256 + f n from rfl, show (numB f n * 256 + f n) / 256 = numB f n by omega]
    rw [e, ih]
    by_cases hq : q < n
    · rw [if_pos hq, if_pos (by omega), show n + 1 - 1 - (q + 1) = n - 1 - q by omega]
    · rw [if_neg hq, if_neg (by omega)]
/-- 32 cells: the first k of n bytes, at the end. -/
def rdC (f : Nat → Nat) (n k : Nat) : Array Value := ((List.range 32).map fun p => Value.int .u8 (if 32 - n ≤ p ∧ p < 32 - n + k then ((f (p + n - 32) : Nat) : Int) else 0)).toArray
theorem rdC_get (f : Nat → Nat) (n k p : Nat) (hp : p < 32) : (rdC f n k)[p]? = some (.int .u8 (if 32 - n ≤ p ∧ p < 32 - n + k then ((f (p + n - 32) : Nat) : Int) else 0)) := by
  unfold rdC; simp [hp]
theorem rdC_size (f : Nat → Nat) (n k : Nat) : (rdC f n k).size = 32 := by unfold rdC; simp
theorem rdC_zero (f : Nat → Nat) (n : Nat) : rdC f n 0 = byC 0 0 := by
  apply Array.ext_getElem?
  intro p
  by_cases hp : p < 32
  · rw [rdC_get _ _ _ _ hp, byC_get _ _ _ hp, if_neg (by omega), if_neg (by omega)]
  · rw [Array.getElem?_eq_none (by rw [rdC_size]; omega), Array.getElem?_eq_none (by rw [byC_size]; omega)]
theorem rdC_all (f : Nat → Nat) (n : Nat) (hn : n ≤ 32) (hf : ∀ k, k < n → f k < 256) : rdC f n n = byC (numB f n) 32 := by
  apply Array.ext_getElem?
  intro p
  by_cases hp : p < 32
  · rw [rdC_get _ _ _ _ hp, byC_get _ _ _ hp, if_pos (by omega : 31 - p < 32), byA_num f n _ hf]
    by_cases h : 32 - n ≤ p
    · rw [if_pos ⟨h, by omega⟩, if_pos (by omega), show n - 1 - (31 - p) = p + n - 32 by omega]
    · rw [if_neg (by omega), if_neg (by omega)]; rfl
  · rw [Array.getElem?_eq_none (by rw [rdC_size]; omega), Array.getElem?_eq_none (by rw [byC_size]; omega)]
theorem rdC_set (f : Nat → Nat) (n k : Nat) (hn : n ≤ 32) (hk : k < n) : (rdC f n k).setIfInBounds (32 - n + k) (.int .u8 (f k : Nat)) = rdC f n (k + 1) := by
  apply Array.ext_getElem?
  intro p
  by_cases hp : p < 32
  · rw [Array.getElem?_setIfInBounds, rdC_size, rdC_get _ _ _ _ hp, rdC_get _ _ _ _ hp]
    by_cases h : 32 - n + k = p
    · subst h
      rw [if_pos rfl, if_pos (by omega), if_pos (by omega), show 32 - n + k + n - 32 = k by omega]
    · rw [if_neg h]
      by_cases g : 32 - n ≤ p ∧ p < 32 - n + k
      · rw [if_pos g, if_pos (by omega)]
      · rw [if_neg g, if_neg (by omega)]
  · rw [Array.getElem?_eq_none (by rw [Array.size_setIfInBounds, rdC_size]; omega), Array.getElem?_eq_none (by rw [rdC_size]; omega)]

set_option maxRecDepth 100000 in
set_option maxHeartbeats 1000000 in
theorem rread_any (b o n cap : Nat) (f : Nat → Nat) (w : World) (hn : n ≤ 32) (hb : b < w.heap.size) (hf : BytesAt w b o n f) :
    Calls Tryz.prog 72 #[.slice (some ⟨b, o, none⟩) n cap] w fun e w' => e = .returned (.tuple #[W (numB f n), .int .i64 0]) ∧ Below w.heap.size w w' := by
  have hi : (Tryz.prog.info? 118).map (·.size) = some (byC (numB f n) 32).size := by rw [byC_size]; kernel_rfl
  have HI := Lib.hid hi
  have hu : Tryz.prog.underlying 118 = some (.array 32 5) := by kernel_rfl
  have HU := Lib.hid hu
  clear hi hu
  go_enter Tryz.func72, Tryz.ntmps72
  go_wp2_with fail
  go_loopw [5] (fun i wr => ∃ k : Nat, k ≤ n ∧ i = .int .i64 k ∧ Blk wr (w.heap.size + 1) 118 (rdC f n k) ∧ Blk wr w.heap.size 58 (Wc 0) ∧ Below w.heap.size w wr) (fun i _ => n - (intOf i).toNat)
  case atStart =>
    refine ⟨0, Nat.zero_le _, rfl, ?_, ?_, balloc (balloc (Below.refl _ _) _) _⟩
    · rw [rdC_zero, byC_zero]; exact Blk.newS _ _ _ _
    · have h := (Blk.new w 58 (Wc 0)).alloc (.cells (byC 0 0) 118)
      rw [byC_zero] at h
      simp only [Wc, lb_zero] at h ⊢
      exact h
  case round =>
    obtain ⟨k, hk, rfl, hs, hr, hB⟩ := hrel
    by_cases hlt : k < n
    · obtain ⟨d1, d2⟩ := hf k hlt
      have d := (hB.cell (p := ⟨b, o + k, none⟩) hb).trans d2
      have hfr := frozen_of_row wr _ (32 - n + k) _ _ hs
      have hc := (cell_of_row wr _ _ _ _ _ hs).trans (rdC_get f n k (32 - n + k) (by omega))
      have HS := Lib.hid hs
      have HR := Lib.hid hr
      clear hs hr d2
      have g1 : IntKind.i64.wrap (32 - (n : Int)) = 32 - (n : Int) := IntWalk.i64_in _ (by omega)
      have g2 : IntKind.i64.wrap (32 - (n : Int) + (k : Int)) = 32 - (n : Int) + (k : Int) := IntWalk.i64_in _ (by omega)
      have g3 : (32 - (n : Int) + (k : Int)).toNat = 32 - n + k := by omega
      have g4 : 32 - (n : Int) + (k : Int) < 32 := by omega
      have g5 : (0 : Int) ≤ 32 - (n : Int) + (k : Int) := by omega
      go_wp2
      have G := grown_set' (grown_refl wr (w.heap.size + 1)) (32 - n + k) (.int .u8 ((f k : Nat) : Int))
      have h := heap_setCell_same wr (w.heap.size + 1) (32 - n + k) _ _ (.int .u8 ((f k : Nat) : Int)) HS.out
      rw [rdC_set f n k hn hlt] at h
      exact ⟨⟨k + 1, by omega, by go_num, h, HR.out.kept G (by simp), hB.setCell (p := ⟨w.heap.size + 1, 32 - n + k, none⟩) (by simp) _⟩, by simp [intOf]; omega⟩
    · obtain rfl : k = n := by omega
      rw [rdC_all f k hn (fun j hj => (hf j hj).1)] at hs
      have HS := Lib.hid hs
      have HR := Lib.hid hr
      clear hs hr hf
      go_upto_region 8 with (fail)
      refine wp_region_lit (wpList_load_mid rfl 118 (.tmp 4) rfl (w.heap.size + 1) 0 rfl (byC (numB f k) 32).toList _ HS.out.rangeAt HU.out rfl HI.out ?_)
      go_wp2_with (go_at_call 110; refine (rfrom_any (numB f k) _).mono ?_; rintro e wk ⟨rfl, hk⟩; have hr2 := HR.out.keep hk; have hB2 := bstep hB hk; have r0 := (cell_of_row wk _ 0 _ _ _ hr2).trans (wc_get 0 0 (by omega)); have r1 := (cell_of_row wk _ 1 _ _ _ hr2).trans (wc_get 0 1 (by omega)); have r2 := (cell_of_row wk _ 2 _ _ _ hr2).trans (wc_get 0 2 (by omega)); have r3 := (cell_of_row wk _ 3 _ _ _ hr2).trans (wc_get 0 3 (by omega)); have f0 := frozen_of_row wk _ 0 _ _ hr2; have f1 := frozen_of_row wk _ 1 _ _ hr2; have f2 := frozen_of_row wk _ 2 _ _ hr2; have f3 := frozen_of_row wk _ 3 _ _ hr2; clear hr2)
      exact bodyPost_ret (v := .tuple #[W (numB f k), .int .i64 0]) (by simp [results, Tryz.results72, go_sem, r0, r1, r2, r3]) rfl ⟨rfl, (((hB2.setCell (p := ⟨w.heap.size, 0, none⟩) (by simp) _).setCell (p := ⟨w.heap.size, 1, none⟩) (by simp) _).setCell (p := ⟨w.heap.size, 2, none⟩) (by simp) _).setCell (p := ⟨w.heap.size, 3, none⟩) (by simp) _⟩

theorem rread_long (b o n cap : Nat) (w : World) (hn : 32 < n) (hm : n ≤ 9223372036854775807) :
    Calls Tryz.prog 72 #[.slice (some ⟨b, o, none⟩) n cap] w fun e w' => e = .returned (.tuple #[W 0, .int .i64 3]) ∧ Below w.heap.size w w' := by
  rw [W_zero]
  have hn' : (32 : Int) < (n : Int) := by omega
  go_enter Tryz.func72, Tryz.ntmps72
  go_wp2
  exact bodyPost_ret (v := .tuple #[.agg #[.int .u64 0, .int .u64 0, .int .u64 0, .int .u64 0], .int .i64 3]) (by simp [results, Tryz.results72, go_sem]) rfl ⟨rfl, by first | exact balloc (balloc (Below.refl _ _) _) _ | exact balloc (balloc (balloc (Below.refl _ _) _) _) _ | exact balloc (Below.refl _ _) _⟩
end Go.Proofs.YtenepkgjdoddgaaGreatDoor

/- The library's functions on strings that the layer word calls: TrimLeft at one byte, CutPrefix, IndexByte (after the kit's own contracts on them, here at this program). -/
namespace Go.Proofs.YtenepkgjdoddgaaGreatDoor
open Go.RowKit

set_option maxHeartbeats 1000000 in
theorem trimLeftByte_any (s : ByteArray) (c : UInt8) (w : World) :
    Calls Tryz.prog 100 #[.string s, .int .u8 c.toNat] w fun e w' => e = .returned (.string ⟨(Lib.trimLeftB s.data.toList c).toArray⟩) ∧ w = w' := by
  go_enter Tryz.func100, Tryz.ntmps100
  go_wp2
  go_loop [0] (fun v => ∃ k : Nat, k ≤ s.size ∧ v = .string ⟨(s.data.toList.drop k).toArray⟩ ∧ ∀ (j : Nat) b, j < k → s.data.toList[j]? = some b → b = c) (fun v => Lib.strSize v)
  case atStart => exact ⟨0, Nat.zero_le _, by simp, fun j b hj => absurd hj (Nat.not_lt_zero _)⟩
  case round =>
    obtain ⟨k, hk, rfl, hc⟩ := hrel
    have hts : (⟨(s.data.toList.drop k).toArray⟩ : ByteArray).size = s.size - k := by rw [Lib.size_mk, List.length_drop, ← Lib.size_eq]
    have hb0 : ∀ h, s.data.toList[k]? = some ((⟨(s.data.toList.drop k).toArray⟩ : ByteArray)[0]'h) := by
      intro h
      rw [← Lib.getElem_mk (s.data.toList.drop k) 0 h, List.getElem?_drop]
      rfl
    have hx1 : (⟨(s.data.toList.drop k).toArray⟩ : ByteArray).extract 1 (s.size - k) = ⟨(s.data.toList.drop (k + 1)).toArray⟩ := by
      rw [Lib.extract_mk, List.drop_drop, List.take_of_length_le (by simp; omega)]
    have hK : Lib.Kept (∀ (j : Nat) b, j < k → s.data.toList[j]? = some b → b = c) := hc
    clear hc
    generalize ht : (⟨(s.data.toList.drop k).toArray⟩ : ByteArray) = t at hts hb0 hx1 ⊢
    have hK3 : Lib.Kept ((⟨(s.data.toList.drop k).toArray⟩ : ByteArray) = t) := ht
    clear ht
    have hkl : Lib.Kept (k ≤ s.data.toList.length) := by rw [← Lib.size_eq]; exact hk
    by_cases h0 : 0 < t.size
    · have hbk := hb0 h0
      clear hb0
      by_cases heq : t[0]'h0 = c
      · have heq' : ((t[0]'h0).toNat : Int) = (c.toNat : Int) := by rw [heq]
        have hK2 : Lib.Kept (s.data.toList[k]? = some (t[0]'h0)) := hbk
        clear hbk
        go_wp2
        refine ⟨⟨k + 1, by omega, rfl, fun j b hj hb => ?_⟩, ?_⟩
        · by_cases e : j = k
          · subst e
            have h2 : s.data.toList[j]? = some (t[0]'h0) := hK2
            have h3 : s.data.toList[j]? = some b := by simpa using hb
            rw [h2] at h3
            rw [← Option.some.inj h3, heq]
          · exact hK j b (by omega) (by simpa using hb)
        · rw [Lib.strSize_string, Lib.strSize_string, Lib.size_mk, List.length_drop, ← Lib.size_eq]
          omega
      · have hne' : ¬ ((t[0]'h0).toNat : Int) = (c.toNat : Int) := by
          intro e
          exact heq (UInt8.toNat_inj.1 (by exact_mod_cast e))
        have hbeq : (((t[0]'h0).toNat : Int) == (c.toNat : Int)) = false := by simpa using hne'
        have hK2 : Lib.Kept (s.data.toList[k]? = some (t[0]'h0)) := hbk
        clear hbk
        go_wp2
        go_ret
        refine ⟨?_, rfl⟩
        have ht' : (⟨(s.data.toList.drop k).toArray⟩ : ByteArray) = t := hK3
        show Ending.returned (Value.string t) = _
        rw [Lib.trimLeftB_drop s.data.toList c k hkl hK (fun b hb => by
          have h2 : s.data.toList[k]? = some (t[0]'h0) := hK2
          rw [h2] at hb
          rw [← Option.some.inj hb]
          exact heq), ht']
    · clear hb0
      go_wp2
      go_ret
      refine ⟨?_, rfl⟩
      have ht' : (⟨(s.data.toList.drop k).toArray⟩ : ByteArray) = t := hK3
      show Ending.returned (Value.string t) = _
      rw [Lib.trimLeftB_drop s.data.toList c k hkl hK (fun b hb => by
        have : s.data.toList.length ≤ k := by rw [← Lib.size_eq]; omega
        simp [List.getElem?_eq_none this] at hb), ht']

set_option maxHeartbeats 2000000 in
set_option maxRecDepth 1000000 in
theorem trimLeft_zero (s : ByteArray) (w : World) :
    Calls Tryz.prog 65 #[.string s, .string ⟨#[48]⟩] w fun e w' => e = .returned (.string ⟨(Lib.trimLeftB s.data.toList 48).toArray⟩) ∧ w = w' := by
  go_enter Tryz.func65, Tryz.ntmps65
  go_wp2_with (go_at_call 100; refine (trimLeftByte_any s 48 _).mono ?_; rintro e w' ⟨rfl, rfl⟩)
  · have hl : s.data.toList = [] := by rw [← Lib.toList_data]; assumption
    go_ret
    refine ⟨?_, rfl⟩
    show Ending.returned (Value.string s) = _
    have hs0 : s = ⟨#[]⟩ := by rw [← Lib.mk_data s, hl]
    rw [hl]
    simp [Lib.trimLeftB, hs0]
  · exfalso
    have h1 : ¬ s.toList = [] := by assumption
    have h2 : s.toList.isEmpty = true := by assumption
    exact h1 (by simpa using h2)
  · go_ret
    exact ⟨rfl, rfl⟩

set_option maxHeartbeats 1000000 in
theorem hasPrefix_any (s p : ByteArray) (w : World) :
    Calls Tryz.prog 124 #[.string s, .string p] w fun e w' => e = .returned (.bool (Lib.hasPrefix s.data.toList p.data.toList)) ∧ w = w' := by
  rw [← Lib.hasPrefix_of_take, ← Lib.size_eq, ← Lib.size_eq]
  go_enter Tryz.func124, Tryz.ntmps124
  go_wp2
  · rename_i h
    go_ret
    refine ⟨?_, rfl⟩
    show Ending.returned (Value.bool ((s.extract 0 p.size).toList == p.toList)) = _
    rw [Lib.extract_toList, Lib.toList_data]
    simp [h]
  · rename_i h
    go_ret
    refine ⟨?_, rfl⟩
    show Ending.returned (Value.bool false) = _
    simp [h]

set_option maxHeartbeats 1000000 in
theorem cutPrefix1_any (s p : ByteArray) (w : World) :
    Calls Tryz.prog 97 #[.string s, .string p] w fun e w' => e = .returned (.tuple #[.string ⟨(Lib.trimPrefix s.data.toList p.data.toList).toArray⟩, .bool (Lib.hasPrefix s.data.toList p.data.toList)]) ∧ w = w' := by
  by_cases h1 : p.size ≤ s.size
  · cases h2 : ((s.extract 0 p.size).toList == p.toList)
    · have hh : Lib.hasPrefix s.data.toList p.data.toList = false := by rw [← Lib.hasPrefix_raw, h2]; simp
      go_enter Tryz.func97, Tryz.ntmps97
      go_wp2_with (go_at_call 124; refine (hasPrefix_any _ _ _).mono ?_; rintro e w' ⟨rfl, rfl⟩; rw [hh])
      go_ret2
      refine ⟨?_, rfl⟩
      rw [Lib.trimPrefix_miss s p (by rw [h2]; simp), hh]
      rfl
    · have hh : Lib.hasPrefix s.data.toList p.data.toList = true := by rw [← Lib.hasPrefix_raw, h2]; simp [h1]
      go_enter Tryz.func97, Tryz.ntmps97
      go_wp2_with (go_at_call 124; refine (hasPrefix_any _ _ _).mono ?_; rintro e w' ⟨rfl, rfl⟩; rw [hh])
      go_ret2
      refine ⟨?_, rfl⟩
      rw [Lib.trimPrefix_hit s p h1 h2, hh]
      rfl
  · have hh : Lib.hasPrefix s.data.toList p.data.toList = false := by rw [← Lib.hasPrefix_raw]; simp [h1]
    go_enter Tryz.func97, Tryz.ntmps97
    go_wp2_with (go_at_call 124; refine (hasPrefix_any _ _ _).mono ?_; rintro e w' ⟨rfl, rfl⟩; rw [hh])
    go_ret2
    refine ⟨?_, rfl⟩
    rw [Lib.trimPrefix_miss s p (by simp [h1]), hh]
    rfl

theorem cutPrefix_any (s p : ByteArray) (w : World) :
    Calls Tryz.prog 62 #[.string s, .string p] w fun e w' => e = .returned (.tuple #[.string ⟨(Lib.trimPrefix s.data.toList p.data.toList).toArray⟩, .bool (Lib.hasPrefix s.data.toList p.data.toList)]) ∧ w = w' := by
  go_enter Tryz.func62, Tryz.ntmps62
  go_wp2_with (go_at_call 97; refine (cutPrefix1_any _ _ _).mono ?_; rintro e w' ⟨rfl, rfl⟩)
  go_ret2
  exact ⟨rfl, rfl⟩

set_option maxRecDepth 100000 in
theorem indexByte1_any (s : ByteArray) (c : Int) (w : World) :
    Calls Tryz.prog 125 #[.string s, .int .u8 c] w fun e w' => e = .returned (.int .i64 (Lib.indexByte s.data.toList c.toNat.toUInt8)) ∧ w = w' := by
  go_enter Tryz.func125, Tryz.ntmps125
  go_wp2
  rw [run_callFunc_extern (fn := Tryz.f147) (by kernel_rfl) (by kernel_rfl) (by kernel_rfl) (by kernel_rfl) (e := Extern.BytealgIndexByte.indexByte) (by kernel_rfl), Lib.run_indexByteString]
  simp only [Result.andThen]
  rw [Oper.upon_value]
  go_wp2
  go_ret
  exact ⟨rfl, rfl⟩

theorem indexByte_any (s : ByteArray) (c : Int) (w : World) :
    Calls Tryz.prog 98 #[.string s, .int .u8 c] w fun e w' => e = .returned (.int .i64 (Lib.indexByte s.data.toList c.toNat.toUInt8)) ∧ w = w' := by
  go_enter Tryz.func98, Tryz.ntmps98
  go_wp2_with (go_at_call 125; refine (indexByte1_any _ _ _).mono ?_; rintro e w' ⟨rfl, rfl⟩)
  go_ret
  exact ⟨rfl, rfl⟩

end Go.Proofs.YtenepkgjdoddgaaGreatDoor

/- Layer word: a word's text (word.Text). -/
namespace Go.Proofs.YtenepkgjdoddgaaGreatDoor
open Go.RowKit

/-- The j-th digit of a number to the base 16, the lowest first. -/
def nib (a j : Nat) : Nat := a / 16 ^ j % 16
/-- A digit's letter. -/
def dgN (n : Nat) : Nat := if n < 10 then 48 + n else 87 + n
theorem nib_lt (a j : Nat) : nib a j < 16 := Nat.mod_lt _ (by omega)
theorem dgN_lt (n : Nat) (h : n < 16) : dgN n < 128 := by unfold dgN; split <;> omega
theorem nib_hi (a k : Nat) : byA a k / 16 = nib a (2 * k + 1) := by
  unfold byA nib
  rw [show (256 : Nat) ^ k = 16 ^ (2 * k) from by rw [Nat.pow_mul], show (256 : Nat) = 16 * 16 from rfl, Nat.mod_mul_right_div_self, Nat.div_div_eq_div_mul, ← Nat.pow_succ]
theorem nib_lo (a k : Nat) : byA a k % 16 = nib a (2 * k) := by
  unfold byA nib
  rw [show (256 : Nat) ^ k = 16 ^ (2 * k) from by rw [Nat.pow_mul], show (256 : Nat) = 16 * 16 from rfl, Nat.mod_mul_right_mod]

set_option maxRecDepth 100000 in
theorem dig_ix (n : Nat) (h : n < 16) (w : World) : (Instr.index 9 (.string ⟨#[48, 49, 50, 51, 52, 53, 54, 55, 56, 57, 97, 98, 99, 100, 101, 102]⟩) (.int .u8 n)).run Tryz.prog w = .ok (.int .u8 (dgN n)) w := by
  match n, h with
  | 0, _ | 1, _ | 2, _ | 3, _ | 4, _ | 5, _ | 6, _ | 7, _ | 8, _ | 9, _ | 10, _ | 11, _ | 12, _ | 13, _ | 14, _ | 15, _ => rfl
  | n + 16, h => exact absurd h (by omega)

/-- 64 cells of letters, of which the first k are written. -/
def txC (a k : Nat) : Array Value := ((List.range 64).map fun p => Value.int .u8 (if p < k then ((dgN (nib a (63 - p)) : Nat) : Int) else 0)).toArray
theorem txC_get (a k p : Nat) (hp : p < 64) : (txC a k)[p]? = some (.int .u8 (if p < k then ((dgN (nib a (63 - p)) : Nat) : Int) else 0)) := by
  unfold txC; simp [hp]
theorem txC_size (a k : Nat) : (txC a k).size = 64 := by unfold txC; simp
theorem txC_set (a k : Nat) (hk : k < 64) : (txC a k).setIfInBounds k (.int .u8 (dgN (nib a (63 - k)) : Nat)) = txC a (k + 1) := by
  apply Array.ext_getElem?
  intro p
  by_cases hp : p < 64
  · rw [Array.getElem?_setIfInBounds, txC_size, txC_get _ _ _ hp, txC_get _ _ _ hp]
    by_cases h : k = p
    · subst h
      rw [if_pos rfl, if_pos hk, if_pos (by omega)]
    · rw [if_neg h]
      by_cases g : p < k
      · rw [if_pos g, if_pos (by omega)]
      · rw [if_neg g, if_neg (by omega)]
  · rw [Array.getElem?_eq_none (by rw [Array.size_setIfInBounds, txC_size]; omega), Array.getElem?_eq_none (by rw [txC_size]; omega)]
theorem txC_zero (a : Nat) : txC a 0 = #[.int .u8 0, .int .u8 0, .int .u8 0, .int .u8 0, .int .u8 0, .int .u8 0, .int .u8 0, .int .u8 0, .int .u8 0, .int .u8 0, .int .u8 0, .int .u8 0, .int .u8 0, .int .u8 0, .int .u8 0, .int .u8 0, .int .u8 0, .int .u8 0, .int .u8 0, .int .u8 0, .int .u8 0, .int .u8 0, .int .u8 0, .int .u8 0, .int .u8 0, .int .u8 0, .int .u8 0, .int .u8 0, .int .u8 0, .int .u8 0, .int .u8 0, .int .u8 0, .int .u8 0, .int .u8 0, .int .u8 0, .int .u8 0, .int .u8 0, .int .u8 0, .int .u8 0, .int .u8 0, .int .u8 0, .int .u8 0, .int .u8 0, .int .u8 0, .int .u8 0, .int .u8 0, .int .u8 0, .int .u8 0, .int .u8 0, .int .u8 0, .int .u8 0, .int .u8 0, .int .u8 0, .int .u8 0, .int .u8 0, .int .u8 0, .int .u8 0, .int .u8 0, .int .u8 0, .int .u8 0, .int .u8 0, .int .u8 0, .int .u8 0, .int .u8 0] := by
  unfold txC; simp only [Nat.not_lt_zero, if_false]; rfl

theorem and_u8_15 (v : Nat) (h : v < 256) : bits .and .u8 (v : Int) 15 = (v : Int) % 16 := by
  have h0 : (0 : Int) ≤ v := Int.natCast_nonneg v
  have h1 : (v : Int) < 256 := by omega
  generalize (v : Int) = z at *
  go_bits2
theorem info_u8 : (Tryz.prog.info? 5).isSome = true := by kernel_rfl
theorem size_u8 : (Tryz.prog.info? 5).map (·.size) = some 1 := by kernel_rfl

/-- All 64 digits' letters, the highest first. -/
def hexL (a : Nat) : List UInt8 := (List.range 64).map fun p => UInt8.ofNat (dgN (nib a (63 - p)))
/-- A word's text. -/
def txtL (a : Nat) : List UInt8 := 48 :: 120 :: (if (Lib.trimLeftB (hexL a) 48).isEmpty then [48] else Lib.trimLeftB (hexL a) 48)

set_option maxRecDepth 100000 in
set_option maxHeartbeats 1000000 in
theorem text_any (a : Nat) (w : World) :
    Calls Tryz.prog 68 #[W a] w fun e w' => e = .returned (.string ⟨(txtL a).toArray⟩) ∧ Below w.heap.size w w' := by
  have hmk : ∀ w, (Instr.makeSlice 86 (.int .i64 0) (.int .i64 64)).run Tryz.prog w = .ok (.slice (some ⟨w.heap.size, 0, none⟩) 0 64) (w.alloc (.cells (txC a 0) 5)) := fun w => by rw [txC_zero]; kernel_rfl
  obtain ⟨i0, hi0⟩ := Option.isSome_iff_exists.1 info_u8
  have hz1 : i0.size = 1 := by have := size_u8; rw [hi0] at this; exact Option.some.inj this
  have HI := Lib.hid hi0
  have HZ := Lib.hid hz1
  clear hi0 hz1
  go_enter Tryz.func68, Tryz.ntmps68
  go_wp2_with (go_at_call 73; refine (bytes_any a _).mono ?_; rintro e w1 ⟨rfl, hy1, hb1⟩)
  have hyb : Blk w1 (w.heap.size + 1 + 1 + 1) 5 (byC a 32) := by simpa using hy1
  have hsz1 : (w.alloc (.cells (Wc a) 58)).heap.size = w.heap.size + 1 := by simp
  have htb : Blk w1 (w.heap.size + 1) 5 (txC a 0) := by rw [← hsz1]; exact (hb1.block _ (by simp)).trans (Blk.new (w.alloc (.cells (Wc a) 58)) 5 (txC a 0) : Blk _ (w.alloc _).heap.size _ _)
  have hB1 : Below w.heap.size w w1 := bstep (balloc (balloc (Below.refl _ _) _) _) hb1
  clear hy1 hb1
  go_loopw [3, 11] (fun t i wr => ∃ k : Nat, k ≤ 32 ∧ t = .slice (some ⟨w.heap.size + 1, 0, none⟩) (2 * k) 64 ∧ i = .int .i64 k ∧ Blk wr (w.heap.size + 1) 5 (txC a (2 * k)) ∧ Blk wr (w.heap.size + 1 + 1 + 1) 5 (byC a 32) ∧ Below w.heap.size w wr) (fun _ i _ => 32 - (intOf i).toNat)
  case atStart => exact ⟨0, Nat.zero_le _, rfl, rfl, htb, hyb, hB1⟩
  case round =>
    obtain ⟨k, hk, rfl, rfl, ht, hy, hB⟩ := hrel
    by_cases hlt : k < 32
    · have hbk := byA_lt a (31 - k)
      obtain ⟨v, hv⟩ : ∃ v, byA a (31 - k) = v := ⟨_, rfl⟩
      have hc : wr.cell? ⟨w.heap.size + 1 + 1 + 1, k, none⟩ = some (.int .u8 v) := (cell_of_row wr _ _ _ _ _ hy).trans (by rw [byC_get _ _ _ hlt, if_pos (by omega), hv])
      rw [hv] at hbk
      have d1 : ∀ w, (Instr.index 9 (.string ⟨#[48, 49, 50, 51, 52, 53, 54, 55, 56, 57, 97, 98, 99, 100, 101, 102]⟩) (.int .u8 ((v : Int) / 16))).run Tryz.prog w = .ok (.int .u8 (dgN (v / 16))) w := fun w => by
        have := dig_ix (v / 16) (by omega) w; rwa [Int.natCast_ediv] at this
      have d2 : ∀ w, (Instr.index 9 (.string ⟨#[48, 49, 50, 51, 52, 53, 54, 55, 56, 57, 97, 98, 99, 100, 101, 102]⟩) (.int .u8 ((v : Int) % 16))).run Tryz.prog w = .ok (.int .u8 (dgN (v % 16))) w := fun w => by
        have := dig_ix (v % 16) (by omega) w; rwa [Int.natCast_emod] at this
      have hand := and_u8_15 v hbk
      have h62 : 2 * k ≤ 62 := by omega
      have g0 : wr.cell? ⟨w.heap.size + 1, 2 * k, none⟩ = some (.int .u8 0) := (cell_of_row wr _ _ _ _ _ ht).trans (by rw [txC_get _ _ _ (by omega), if_neg (by omega)])
      have g1 : wr.cell? ⟨w.heap.size + 1, 2 * k + 1, none⟩ = some (.int .u8 0) := (cell_of_row wr _ _ _ _ _ ht).trans (by rw [txC_get _ _ _ (by omega), if_neg (by omega)])
      have hltB : w.heap.size + 1 < wr.heap.size := ht.lt
      have z0 := frozen_of_row wr _ (2 * k) _ _ ht
      have z1 := frozen_of_row wr _ (2 * k + 1) _ _ ht
      have HV := Lib.hid hv
      have HT := Lib.hid ht
      have HY := Lib.hid hy
      clear hv ht hy
      go_wp2_with fail
      go_region
      go_wp2
      have e1 : v / 16 = nib a (63 - 2 * k) := by rw [← HV.out, nib_hi]; congr 1; omega
      have e2 : v % 16 = nib a (63 - (2 * k + 1)) := by rw [← HV.out, nib_lo]; congr 1; omega
      have hT := heap_setCell_same _ _ (2 * k + 1) _ _ (.int .u8 (dgN (v % 16) : Nat)) (heap_setCell_same wr _ (2 * k) _ _ (.int .u8 (dgN (v / 16) : Nat)) HT.out)
      rw [e1, txC_set a (2 * k) (by omega), e2, txC_set a (2 * k + 1) (by omega)] at hT
      rw [e1, e2]
      refine ⟨⟨k + 1, by omega, rfl, by go_num, Blk.alloc hT _, Blk.alloc ((HY.out.kept (grown_set' (grown_refl wr (w.heap.size + 1)) (2 * k) _) (by simp <;> omega)).kept (grown_set' (grown_refl _ (w.heap.size + 1)) (2 * k + 1) _) (by simp <;> omega)) _, ?_⟩, by simp [intOf]; omega⟩
      exact ((((hB.setCell (p := ⟨w.heap.size + 1, 2 * k, none⟩) (by simp) _).setCell (p := ⟨w.heap.size + 1, 2 * k + 1, none⟩) (by simp) _).alloc (by simp; omega) _)).drew
    · obtain rfl : k = 32 := by omega
      have hconv := run_convert_bytes_arg (P := Tryz.prog) wr 86 5 (by kernel_rfl) (by kernel_rfl) (w.heap.size + 1) 0 64 64 ((List.range 64).map fun p => ((dgN (nib a (63 - p)) : Nat) : Int)) (by simp) (fun i hi => by
        rw [Nat.zero_add]
        refine (cell_of_row wr _ _ _ _ _ ht).trans ?_
        rw [txC_get _ _ _ hi, if_pos (by omega)]
        simp [List.getD, hi]) 9 (by kernel_rfl)
      have HT := Lib.hid ht
      clear ht hy
      have hsl : Lib.Kept ((strOfNums ((List.range 64).map fun p => ((dgN (nib a (63 - p)) : Nat) : Int))).data.toList = hexL a) := by
        show _ = _
        rw [strOfNums_data]; unfold hexL; rw [List.map_map]; rfl
      have hlen : (Lib.trimLeftB (strOfNums ((List.range 64).map fun p => ((dgN (nib a (63 - p)) : Nat) : Int))).data.toList 48).length ≤ 64 := by
        have h1 := (List.dropWhile_sublist (· == (48 : UInt8)) (l := (strOfNums ((List.range 64).map fun p => ((dgN (nib a (63 - p)) : Nat) : Int))).data.toList)).length_le
        have h2 : (strOfNums ((List.range 64).map fun p => ((dgN (nib a (63 - p)) : Nat) : Int))).data.toList.length = 64 := by rw [strOfNums_data]; simp
        unfold Lib.trimLeftB; omega
      generalize strOfNums ((List.range 64).map fun p => ((dgN (nib a (63 - p)) : Nat) : Int)) = S at *
      go_wp2_with (go_at_call 65; refine (trimLeft_zero S _).mono ?_; rintro e w2 ⟨rfl, rfl⟩)
      · have h : (Lib.trimLeftB S.data.toList 48).isEmpty = true := by assumption
        go_ret
        refine ⟨?_, hB⟩
        show Ending.returned (Value.string (ByteArray.mk [48, 120].toArray ++ ByteArray.mk [48].toArray)) = _
        rw [ByteArray.mk_append_mk]
        unfold txtL
        rw [← show S.data.toList = hexL a from hsl, h]; rfl
      · have h : (Lib.trimLeftB S.data.toList 48).isEmpty = false := by assumption
        go_ret
        refine ⟨?_, hB⟩
        show Ending.returned (Value.string (ByteArray.mk [48, 120].toArray ++ ByteArray.mk (Lib.trimLeftB S.data.toList 48).toArray)) = _
        rw [ByteArray.mk_append_mk]
        unfold txtL
        rw [← show S.data.toList = hexL a from hsl, h]; rfl

end Go.Proofs.YtenepkgjdoddgaaGreatDoor

/- The reference's Text, by a contract. -/
namespace Go.Proofs.YtenepkgjdoddgaaGreatDoor
open Go.RowKit
attribute [local go_sem] ix0 ix1 ix2 ix3
/-- The letter of digit k from the top. -/
def dgA (a k : Nat) : UInt8 := UInt8.ofNat (dgN (nib a (63 - k)))
/-- What lies there ahead of digit k: no noughts ahead but a last one. -/
def txA (a : Nat) : Nat → List UInt8
  | 0 => []
  | k + 1 => if txA a k ≠ [] ∨ 0 < nib a (63 - k) ∨ k = 63 then txA a k ++ [dgA a k] else txA a k
theorem txA_succ (a k : Nat) : txA a (k + 1) = if txA a k ≠ [] ∨ 0 < nib a (63 - k) ∨ k = 63 then txA a k ++ [dgA a k] else txA a k := rfl
theorem dg_48 : ∀ n : Fin 16, (UInt8.ofNat (dgN n.val) == 48) = (n.val == 0) := by decide +kernel
theorem dgA_48 (a k : Nat) : (dgA a k == 48) = (nib a (63 - k) == 0) := dg_48 ⟨_, nib_lt a (63 - k)⟩
theorem hexL_take (a k : Nat) (h : k < 64) : (hexL a).take (k + 1) = (hexL a).take k ++ [dgA a k] := by
  have hl : (hexL a).length = 64 := by unfold hexL; simp
  rw [List.take_add_one]
  congr 1
  rw [List.getElem?_eq_getElem (by omega)]
  unfold hexL dgA
  simp
theorem trim_snoc (l : List UInt8) (x : UInt8) : Lib.trimLeftB (l ++ [x]) 48 = if Lib.trimLeftB l 48 = [] then (if (x == 48) = true then [] else [x]) else Lib.trimLeftB l 48 ++ [x] := by
  unfold Lib.trimLeftB
  rw [List.dropWhile_append]
  by_cases h : List.dropWhile (fun x => x == 48) l = []
  · rw [if_pos (by rw [h]; rfl), if_pos h]
    by_cases g : (x == 48) = true
    · rw [if_pos g]; simp [g]
    · rw [if_neg g]; simp [g]
  · rw [if_neg (by simpa using h), if_neg h]
theorem txA_trim (a : Nat) : ∀ k, k ≤ 63 → txA a k = Lib.trimLeftB ((hexL a).take k) 48
  | 0, _ => by rw [List.take_zero]; rfl
  | k + 1, h => by
    rw [hexL_take a k (by omega), trim_snoc, ← txA_trim a k (by omega), dgA_48, txA_succ]
    by_cases h1 : txA a k = []
    · rw [if_pos h1]
      by_cases h2 : nib a (63 - k) = 0
      · rw [if_neg (by rintro (g | g | g) <;> first | exact g h1 | omega), if_pos (by simpa using h2), h1]
      · rw [if_pos (.inr (.inl (by omega))), if_neg (by simpa using h2), h1]; rfl
    · rw [if_neg h1, if_pos (.inl h1)]
theorem txA_txtL (a : Nat) : txtL a = 48 :: 120 :: txA a 64 := by
  have h := hexL_take a 63 (by omega)
  rw [show (hexL a).take (63 + 1) = hexL a from List.take_of_length_le (by unfold hexL; simp)] at h
  have ht : txA a 64 = txA a 63 ++ [dgA a 63] := by
    show txA a (63 + 1) = _
    rw [txA_succ, if_pos (Or.inr (Or.inr rfl))]
  have e : (if (Lib.trimLeftB (hexL a) 48).isEmpty then [48] else Lib.trimLeftB (hexL a) 48) = txA a 64 := by
    rw [h, trim_snoc, ← txA_trim a 63 (by omega), dgA_48, ht]
    generalize txA a 63 = t
    by_cases h1 : t = []
    · rw [if_pos h1, h1]
      by_cases h2 : nib a (63 - 63) = 0
      · have h3 : dgA a 63 = 48 := by
          have := dgA_48 a 63
          rw [h2] at this
          simpa using this
        rw [if_pos (by simpa using h2), h3]; rfl
      · have h2' : (nib a (63 - 63) == 0) = false := by simpa using h2
        rw [h2']; rfl
    · rw [if_neg h1]
      simp
  unfold txtL
  rw [e]

theorem dig_ex : ∀ n : Nat, n < 16 → (⟨#[48, 49, 50, 51, 52, 53, 54, 55, 56, 57, 97, 98, 99, 100, 101, 102]⟩ : ByteArray).extract n (n + 1) = ⟨#[UInt8.ofNat (dgN n)]⟩
  | 0, _ | 1, _ | 2, _ | 3, _ | 4, _ | 5, _ | 6, _ | 7, _ | 8, _ | 9, _ | 10, _ | 11, _ | 12, _ | 13, _ | 14, _ | 15, _ => by rfl
  | n + 16, h => absurd h (by omega)
theorem txA_len (a : Nat) : ∀ k, (txA a k).length ≤ k
  | 0 => Nat.le_refl _
  | k + 1 => by
    have := txA_len a k
    rw [txA_succ]
    split
    · simp; omega
    · omega
/-- 32 cells are laid into a block of noughts that is new. -/
theorem lay32 (a : Nat) (w wk : World) (hk : Below w.heap.size w wk) : ∃ wz, (storeCells ⟨wk.heap.size, 0, none⟩ (byC a 32).toList).run Tryz.prog (wk.alloc (.cells (byC 0 0) 118)) = .ok () wz ∧ Blk wz wk.heap.size 118 (byC a 32) ∧ Below w.heap.size w wz := by
  have hz := Blk.new wk 118 (byC 0 0)
  have h1 := byC_one a 32
  have ht := hz.there (byC a 32).size (by rw [byC_size, byC_size]; exact Nat.le_refl _)
  refine ⟨_, run_storeCells_cells wk.heap.size 0 (byC a 32).toList 0 _ (fun j hj => ?_) (fun j hj => ?_) (fun v hv => ?_), ?_, ?_⟩
  · exact (ht j (by simpa using hj)).1
  · exact (ht j (by simpa using hj)).2
  · exact (Array.all_eq_true_iff_forall_mem.1 h1) v (by simpa using hv)
  · exact blk_setCells hz (byC a 32) (by rw [byC_size, byC_size]) h1
  · exact below_setCells' hk.size _ 0 _ (balloc hk _)

end Go.Proofs.YtenepkgjdoddgaaGreatDoor

/- Layer word: the word of a text (word.Parse). -/
namespace Go.Proofs.YtenepkgjdoddgaaGreatDoor
open Go.RowKit

/-- Where Parse jumps to what is no text: the result's variable is at hand, still nought. -/
def PJ (B : Nat) (w0 : World) (a : Act) (w : World) : Prop := ∃ x0 x1 x3 x4 x5 x6 x7 x8 x9 x10 x11 x12 x13 x14 x15 x16 x17 x18 x19 x20 x21 x22 x23 x24 x25 x26 x27 x28 x29 x30 x31 x32 x33 x34 x35 x36 x37 x38 x39 x40 x41 x42 x43 x44 x45 x46 x47 x48 x49 : Value, a = { tmps := #[x0, x1, .pointer (some ⟨B, 0, none⟩), x3, x4, x5, x6, x7, x8, x9, x10, x11, x12, x13, x14, x15, x16, x17, x18, x19, x20, x21, x22, x23, x24, x25, x26, x27, x28, x29, x30, x31, x32, x33, x34, x35, x36, x37, x38, x39, x40, x41, x42, x43, x44, x45, x46, x47, x48, x49], defers := [] } ∧ Blk w B 58 #[.int .u64 0, .int .u64 0, .int .u64 0, .int .u64 0] ∧ Below w0.heap.size w0 w

/-- A letter's digit; 16: it is none's. -/
def dv (b : UInt8) : Nat := if 48 ≤ b.toNat ∧ b.toNat ≤ 57 then b.toNat - 48 else if 97 ≤ b.toNat ∧ b.toNat ≤ 102 then b.toNat - 87 else 16
theorem dv_all : ∀ n : Fin 256, Lib.indexByte [48, 49, 50, 51, 52, 53, 54, 55, 56, 57, 97, 98, 99, 100, 101, 102] (UInt8.ofNat n.val) = if dv (UInt8.ofNat n.val) < 16 then (dv (UInt8.ofNat n.val) : Int) else -1 := by decide +kernel
theorem dv_eq (b : UInt8) : Lib.indexByte [48, 49, 50, 51, 52, 53, 54, 55, 56, 57, 97, 98, 99, 100, 101, 102] b = if dv b < 16 then (dv b : Int) else -1 := by
  have h := dv_all ⟨b.toNat, b.toNat_lt⟩
  simpa using h
/-- The number of the first k digits. -/
def numD (l : List UInt8) : Nat → Nat
  | 0 => 0
  | k + 1 => numD l k * 16 + dv (l.getD k 0)

theorem cut_rest (s : ByteArray) (w : World) : Calls Tryz.prog 62 #[.string s, .string ⟨#[48, 120]⟩] w fun e w' => e = .returned (.tuple #[.string ⟨(Lib.trimPrefix s.data.toList [48, 120]).toArray⟩, .bool (Lib.hasPrefix s.data.toList [48, 120])]) ∧ w = w' := cutPrefix_any s ⟨#[48, 120]⟩ w

set_option maxRecDepth 100000 in
set_option maxHeartbeats 2000000 in
/-- What is no text. -/
theorem parse_bad (s R : ByteArray) (hp : Bool) (hs : R.size ≤ 64) (hR : Hid ((⟨(Lib.trimPrefix s.data.toList [48, 120]).toArray⟩ : ByteArray) = R)) (hP : Hid (Lib.hasPrefix s.data.toList [48, 120] = hp))
    (hbad : hp = false ∨ hp = true ∧ R.toList.isEmpty = true ∨ (∃ h0 : 0 < R.size, hp = true ∧ R[0]'h0 = 48 ∧ (R.toList == [48]) = false) ∨ (∃ h0 : 0 < R.size, hp = true ∧ R[0]'h0 ≠ 48 ∧ ∃ j, j < R.size ∧ ¬ dv (R.data.toList.getD j 0) < 16)) (w : World) :
    Calls Tryz.prog 63 #[.string s] w fun e w' => e = .returned (.tuple #[W 0, .int .i64 110]) ∧ Below w.heap.size w w' := by
  rw [W_zero]
  have bR0 := Blk.new w 58 #[.int .u64 0, .int .u64 0, .int .u64 0, .int .u64 0]
  go_enter Tryz.func63, Tryz.ntmps63
  go_wp2
  refine wp_scope_jumps 0 (PJ w.heap.size w) (fun _ _ => 0) rfl ?first ?pass
  case first =>
    rcases hbad with rfl | ⟨rfl, hE⟩ | ⟨h0, rfl, hz, hE⟩ | ⟨h0, rfl, hz, hE⟩
    · go_wp2_with (go_at_call 62; refine (cut_rest s _).mono ?_; rintro e w' ⟨rfl, rfl⟩; rw [hR.out, hP.out])
      go_step3
      exact ⟨rfl, _, _, _, _, _, _, _, _, _, _, _, _, _, _, _, _, _, _, _, _, _, _, _, _, _, _, _, _, _, _, _, _, _, _, _, _, _, _, _, _, _, _, _, _, _, _, _, _, _, rfl, bR0.alloc _, balloc (balloc (Below.refl _ _) _) _⟩
    · go_wp2_with (go_at_call 62; refine (cut_rest s _).mono ?_; rintro e w' ⟨rfl, rfl⟩; rw [hR.out, hP.out])
      go_step3
      exact ⟨rfl, _, _, _, _, _, _, _, _, _, _, _, _, _, _, _, _, _, _, _, _, _, _, _, _, _, _, _, _, _, _, _, _, _, _, _, _, _, _, _, _, _, _, _, _, _, _, _, _, _, rfl, bR0.alloc _, balloc (balloc (Below.refl _ _) _) _⟩
    · have hz' : (((R[0]'h0).toNat : Int) == 48) = true := by rw [hz]; rfl
      have hEm : R.toList.isEmpty = false := by rw [ByteArray.toList_eq]; have : 0 < R.data.toList.length := by simpa using h0
                                                cases hd : R.data.toList with
                                                | nil => rw [hd] at this; simp at this
                                                | cons _ _ => rfl
      clear hz
      go_wp2_with (go_at_call 62; refine (cut_rest s _).mono ?_; rintro e w' ⟨rfl, rfl⟩; rw [hR.out, hP.out])
      go_step3
      exact ⟨rfl, _, _, _, _, _, _, _, _, _, _, _, _, _, _, _, _, _, _, _, _, _, _, _, _, _, _, _, _, _, _, _, _, _, _, _, _, _, _, _, _, _, _, _, _, _, _, _, _, _, rfl, bR0.alloc _, balloc (balloc (Below.refl _ _) _) _⟩
    · have hz' : (((R[0]'h0).toNat : Int) == 48) = false := by
        rw [beq_eq_false_iff_ne]; intro e; exact hz (UInt8.toNat_inj.1 (by have : (R[0]'h0).toNat = 48 := by omega
                                                                           rw [this]; rfl))
      have hEm : R.toList.isEmpty = false := by rw [ByteArray.toList_eq]; have : 0 < R.data.toList.length := by simpa using h0
                                                cases hd : R.data.toList with
                                                | nil => rw [hd] at this; simp at this
                                                | cons _ _ => rfl
      clear hz
      go_wp2_with (go_at_call 62; refine (cut_rest s _).mono ?_; rintro e w' ⟨rfl, rfl⟩; rw [hR.out, hP.out])
      clear hz' hEm
      have HE := Lib.hid hE
      clear hE
      go_loopw [34] (fun i wr => ∃ k : Nat, k ≤ R.size ∧ (∀ j, j < k → dv (R.data.toList.getD j 0) < 16) ∧ i = .int .i64 k ∧ Blk wr (w.heap.size + 1) 153 (Dc (numD R.data.toList k) 4) ∧ Blk wr w.heap.size 58 #[.int .u64 0, .int .u64 0, .int .u64 0, .int .u64 0] ∧ Below w.heap.size w wr) (fun i _ => R.size - (intOf i).toNat)
      case atStart =>
        refine ⟨0, Nat.zero_le _, fun j hj => absurd hj (Nat.not_lt_zero _), rfl, ?_, bR0.alloc _, balloc (balloc (Below.refl _ _) _) _⟩
        have h := Blk.new (w.alloc (.cells #[.int .u64 0, .int .u64 0, .int .u64 0, .int .u64 0] 58)) 153 #[.int .u64 0, .int .u64 0, .int .u64 0, .int .u64 0, .int .i64 4]
        unfold Dc numD; simp only [lb_zero]; simpa using h
      case round =>
        obtain ⟨k, hk, hd, rfl, hs1, hr, hB⟩ := hrel
        have HD := Lib.hid hd
        have HS := Lib.hid hs1
        have HR2 := Lib.hid hr
        clear hd hs1 hr
        by_cases hlt : k < R.size
        · obtain ⟨b, hb⟩ : ∃ b, R[k]'hlt = b := ⟨_, rfl⟩
          have hg : Hid (R.data.toList.getD k 0 = b) := by
            show _ = _
            rw [← hb]; simp [List.getD, List.getElem?_eq_getElem (show k < R.data.toList.length by simpa using hlt)]; rfl
          have hbu : Hid ((b.toNat : Int).toNat.toUInt8 = b) := by show _ = _; simp
          have hx : Hid (Lib.indexByte [48, 49, 50, 51, 52, 53, 54, 55, 56, 57, 97, 98, 99, 100, 101, 102] b = _) := dv_eq b
          by_cases hdv : dv b < 16
          · have hnext : Hid (∀ j, j < k + 1 → dv (R.data.toList.getD j 0) < 16) := fun j hj => by
              rcases Nat.lt_succ_iff_lt_or_eq.1 hj with h | h
              · exact HD.out j h
              · subst h; rw [hg.out]; exact hdv
            rw [if_pos hdv] at hx
            go_wp2_with (first | (go_at_call 98; refine (indexByte_any ⟨#[48, 49, 50, 51, 52, 53, 54, 55, 56, 57, 97, 98, 99, 100, 101, 102]⟩ _ _).mono ?_; rintro e w' ⟨rfl, rfl⟩; rw [hbu.out, hx.out]) | (go_at_call 99; refine (take_4 (numD R.data.toList k) (dv b) (w.heap.size + 1) (by unfold B64; omega) _ HS.out).mono ?_; rintro e w1 ⟨rfl, hs1, hb1⟩))
            go_roundw
            case rel => exact ⟨k + 1, by omega, hnext.out, by go_num, by rw [numD, hg.out]; exact hs1, HR2.out.kept hb1 (by simp), hB.grown hb1 hB.size (fun j e => by cases e; omega)⟩
            case measure => simp [intOf]; omega
          · rw [if_neg hdv] at hx
            go_wp2_with (go_at_call 98; refine (indexByte_any ⟨#[48, 49, 50, 51, 52, 53, 54, 55, 56, 57, 97, 98, 99, 100, 101, 102]⟩ _ _).mono ?_; rintro e w' ⟨rfl, rfl⟩; rw [hbu.out, hx.out])
            go_step3
            exact ⟨rfl, _, _, _, _, _, _, _, _, _, _, _, _, _, _, _, _, _, _, _, _, _, _, _, _, _, _, _, _, _, _, _, _, _, _, _, _, _, _, _, _, _, _, _, _, _, _, _, _, _, rfl, HR2.out, hB⟩
        · exfalso
          obtain ⟨j, hj, hj2⟩ := HE.out
          exact hj2 (HD.out j (by omega))
  case pass =>
    rintro a X ⟨x0, x1, x3, x4, x5, x6, x7, x8, x9, x10, x11, x12, x13, x14, x15, x16, x17, x18, x19, x20, x21, x22, x23, x24, x25, x26, x27, x28, x29, x30, x31, x32, x33, x34, x35, x36, x37, x38, x39, x40, x41, x42, x43, x44, x45, x46, x47, x48, x49, rfl, bR, hB⟩
    have r0 := cell_of_row X _ 0 _ _ _ bR
    have r1 := cell_of_row X _ 1 _ _ _ bR
    have r2 := cell_of_row X _ 2 _ _ _ bR
    have r3 := cell_of_row X _ 3 _ _ _ bR
    have f0 := frozen_of_row X _ 0 _ _ bR
    have f1 := frozen_of_row X _ 1 _ _ bR
    have f2 := frozen_of_row X _ 2 _ _ bR
    have f3 := frozen_of_row X _ 3 _ _ bR
    go_wp2
    exact bodyPost_ret (R := fun e w' => e = .returned (.tuple #[.agg #[.int .u64 0, .int .u64 0, .int .u64 0, .int .u64 0], .int .i64 110]) ∧ Below w.heap.size w w') (v := .tuple #[.agg #[.int .u64 0, .int .u64 0, .int .u64 0, .int .u64 0], .int .i64 110]) (by simp [results, Tryz.results63, go_sem, r0, r1, r2, r3]) rfl ⟨rfl, (((hB.setCell (p := ⟨w.heap.size, 0, none⟩) (Nat.le_refl _) _).setCell (p := ⟨w.heap.size, 1, none⟩) (Nat.le_refl _) _).setCell (p := ⟨w.heap.size, 2, none⟩) (Nat.le_refl _) _).setCell (p := ⟨w.heap.size, 3, none⟩) (Nat.le_refl _) _⟩

set_option maxRecDepth 100000 in
set_option maxHeartbeats 2000000 in
/-- Digits behind 0x, none ahead of them a nought. -/
theorem parse_ok (s R : ByteArray) (hs : R.size ≤ 64) (hR : Hid ((⟨(Lib.trimPrefix s.data.toList [48, 120]).toArray⟩ : ByteArray) = R)) (hP : Hid (Lib.hasPrefix s.data.toList [48, 120] = true))
    (h0 : 0 < R.size) (hlead : Hid (R[0]'h0 ≠ 48 ∨ (R.toList == [48]) = true)) (hall : ∀ j, j < R.size → dv (R.data.toList.getD j 0) < 16) (w : World) :
    Calls Tryz.prog 63 #[.string s] w fun e w' => e = .returned (.tuple #[W (numD R.data.toList R.size), .int .i64 0]) ∧ Below w.heap.size w w' := by
  have bR0 := Blk.new w 58 #[.int .u64 0, .int .u64 0, .int .u64 0, .int .u64 0]
  have hEm : R.toList.isEmpty = false := by
    rw [ByteArray.toList_eq]; have : 0 < R.data.toList.length := by simpa using h0
    cases hd : R.data.toList with
    | nil => rw [hd] at this; simp at this
    | cons _ _ => rfl
  have HA := Lib.hid hall
  clear hall
  have hz : Hid ((((R[0]'h0).toNat : Int) == 48) = false ∨ (((R[0]'h0).toNat : Int) == 48) = true ∧ (R.toList == [48]) = true) := by
    rcases hlead.out with h | h
    · left
      rw [beq_eq_false_iff_ne]; intro e
      refine h (UInt8.toNat_inj.1 ?_)
      have : (R[0]'h0).toNat = 48 := by omega
      rw [this]; rfl
    · by_cases g : (((R[0]'h0).toNat : Int) == 48) = true
      · exact .inr ⟨g, h⟩
      · exact .inl (by simpa using g)
  clear hlead
  go_enter Tryz.func63, Tryz.ntmps63
  go_wp2
  go_step3
  rcases hz.out with hz | ⟨hz, hq⟩
  all_goals
    go_wp2_with (go_at_call 62; refine (cut_rest s _).mono ?_; rintro e w' ⟨rfl, rfl⟩; rw [hR.out, hP.out])
    clear hz hEm
    go_loopw [34] (fun i wr => ∃ k : Nat, k ≤ R.size ∧ (∀ j, j < k → dv (R.data.toList.getD j 0) < 16) ∧ i = .int .i64 k ∧ Blk wr (w.heap.size + 1) 153 (Dc (numD R.data.toList k) 4) ∧ Blk wr w.heap.size 58 #[.int .u64 0, .int .u64 0, .int .u64 0, .int .u64 0] ∧ Below w.heap.size w wr) (fun i _ => R.size - (intOf i).toNat)
    case atStart =>
      refine ⟨0, Nat.zero_le _, fun j hj => absurd hj (Nat.not_lt_zero _), rfl, ?_, bR0.alloc _, balloc (balloc (Below.refl _ _) _) _⟩
      have h := Blk.new (w.alloc (.cells #[.int .u64 0, .int .u64 0, .int .u64 0, .int .u64 0] 58)) 153 #[.int .u64 0, .int .u64 0, .int .u64 0, .int .u64 0, .int .i64 4]
      unfold Dc numD; simp only [lb_zero]; simpa using h
    case round =>
      obtain ⟨k, hk, hd, rfl, hs1, hr, hB⟩ := hrel
      have HD := Lib.hid hd
      have HS := Lib.hid hs1
      have HR2 := Lib.hid hr
      clear hd hs1 hr
      by_cases hlt : k < R.size
      · obtain ⟨b, hb⟩ : ∃ b, R[k]'hlt = b := ⟨_, rfl⟩
        have hg : Hid (R.data.toList.getD k 0 = b) := by
          show _ = _
          rw [← hb]; simp [List.getD, List.getElem?_eq_getElem (show k < R.data.toList.length by simpa using hlt)]; rfl
        have hbu : Hid ((b.toNat : Int).toNat.toUInt8 = b) := by show _ = _; simp
        have hx : Hid (Lib.indexByte [48, 49, 50, 51, 52, 53, 54, 55, 56, 57, 97, 98, 99, 100, 101, 102] b = _) := dv_eq b
        have hdv : dv b < 16 := by rw [← hg.out]; exact HA.out k hlt
        have hnext : Hid (∀ j, j < k + 1 → dv (R.data.toList.getD j 0) < 16) := fun j hj => by
          rcases Nat.lt_succ_iff_lt_or_eq.1 hj with h | h
          · exact HD.out j h
          · subst h; rw [hg.out]; exact hdv
        rw [if_pos hdv] at hx
        go_wp2_with (first | (go_at_call 98; refine (indexByte_any ⟨#[48, 49, 50, 51, 52, 53, 54, 55, 56, 57, 97, 98, 99, 100, 101, 102]⟩ _ _).mono ?_; rintro e w' ⟨rfl, rfl⟩; rw [hbu.out, hx.out]) | (go_at_call 99; refine (take_4 (numD R.data.toList k) (dv b) (w.heap.size + 1) (by unfold B64; omega) _ HS.out).mono ?_; rintro e w1 ⟨rfl, hs1, hb1⟩))
        go_roundw
        case rel => exact ⟨k + 1, by omega, hnext.out, by go_num, by rw [numD, hg.out]; exact hs1, HR2.out.kept hb1 (by simp), hB.grown hb1 hB.size (fun j e => by cases e; omega)⟩
        case measure => simp [intOf]; omega
      · obtain rfl : k = R.size := by omega
        have hs1 := HS.out
        have hr := HR2.out
        have c0 := (cell_of_row wr _ 0 _ _ _ hs1).trans (show (Dc (numD R.data.toList R.size) 4)[0]? = some (.int .u64 (lb (numD R.data.toList R.size) 0)) from rfl)
        have c1 := (cell_of_row wr _ 1 _ _ _ hs1).trans (show (Dc (numD R.data.toList R.size) 4)[1]? = some (.int .u64 (lb (numD R.data.toList R.size) 1)) from rfl)
        have c2 := (cell_of_row wr _ 2 _ _ _ hs1).trans (show (Dc (numD R.data.toList R.size) 4)[2]? = some (.int .u64 (lb (numD R.data.toList R.size) 2)) from rfl)
        have c3 := (cell_of_row wr _ 3 _ _ _ hs1).trans (show (Dc (numD R.data.toList R.size) 4)[3]? = some (.int .u64 (lb (numD R.data.toList R.size) 3)) from rfl)
        have r0 := cell_of_row wr _ 0 _ _ _ hr
        have r1 := cell_of_row wr _ 1 _ _ _ hr
        have r2 := cell_of_row wr _ 2 _ _ _ hr
        have r3 := cell_of_row wr _ 3 _ _ _ hr
        have f0 := frozen_of_row wr _ 0 _ _ hr
        have f1 := frozen_of_row wr _ 1 _ _ hr
        have f2 := frozen_of_row wr _ 2 _ _ hr
        have f3 := frozen_of_row wr _ 3 _ _ hr
        clear hs1 hr
        go_wp2
        rw [Exit.noGoto_ret]
        exact bodyPost_ret (v := .tuple #[W (numD R.data.toList R.size), .int .i64 0]) (by simp [results, Tryz.results63, go_sem, r0, r1, r2, r3]) rfl ⟨rfl, (((hB.setCell (p := ⟨w.heap.size, 0, none⟩) (Nat.le_refl _) _).setCell (p := ⟨w.heap.size, 1, none⟩) (Nat.le_refl _) _).setCell (p := ⟨w.heap.size, 2, none⟩) (Nat.le_refl _) _).setCell (p := ⟨w.heap.size, 3, none⟩) (Nat.le_refl _) _⟩

set_option maxHeartbeats 1000000 in
/-- Too many digits. -/
theorem parse_long (s R : ByteArray) (hs : 64 < R.size) (hm : R.size ≤ 9223372036854775807) (hR : Hid ((⟨(Lib.trimPrefix s.data.toList [48, 120]).toArray⟩ : ByteArray) = R)) (hP : Hid (Lib.hasPrefix s.data.toList [48, 120] = true)) (w : World) :
    Calls Tryz.prog 63 #[.string s] w fun e w' => e = .returned (.tuple #[W 0, .int .i64 3]) ∧ Below w.heap.size w w' := by
  rw [W_zero]
  have hEm : R.toList.isEmpty = false := by
    rw [ByteArray.toList_eq]; have : 0 < R.data.toList.length := by have : R.data.toList.length = R.size := by simp
                                                                    omega
    cases hd : R.data.toList with
    | nil => rw [hd] at this; simp at this
    | cons _ _ => rfl
  go_enter Tryz.func63, Tryz.ntmps63
  go_wp2
  go_step3
  go_wp2_with (go_at_call 62; refine (cut_rest s _).mono ?_; rintro e w' ⟨rfl, rfl⟩; rw [hR.out, hP.out])
  rw [Exit.noGoto_ret]
  exact bodyPost_ret (v := .tuple #[.agg #[.int .u64 0, .int .u64 0, .int .u64 0, .int .u64 0], .int .i64 3]) (by simp [results, Tryz.results63, go_sem]) rfl ⟨rfl, balloc (balloc (Below.refl _ _) _) _⟩

end Go.Proofs.YtenepkgjdoddgaaGreatDoor

/- The chapter's rows (exciselaw01.works): what each call comes to, and that all of them hold. -/
namespace Go.Proofs.YtenepkgjdoddgaaGreatDoor
open Go.RowKit

theorem W_lit (n : Nat) (a b c d : Int) (h0 : lb n 0 = a) (h1 : lb n 1 = b) (h2 : lb n 2 = c) (h3 : lb n 3 = d) : W n = .agg #[.int .u64 a, .int .u64 b, .int .u64 c, .int .u64 d] := by unfold W; rw [h0, h1, h2, h3]
theorem W_1 : W 1 = .agg #[.int .u64 1, .int .u64 0, .int .u64 0, .int .u64 0] := W_lit 1 1 0 0 0 (by decide +kernel) (by decide +kernel) (by decide +kernel) (by decide +kernel)
theorem W_2 : W 2 = .agg #[.int .u64 2, .int .u64 0, .int .u64 0, .int .u64 0] := W_lit 2 2 0 0 0 (by decide +kernel) (by decide +kernel) (by decide +kernel) (by decide +kernel)
theorem W_255 : W 255 = .agg #[.int .u64 255, .int .u64 0, .int .u64 0, .int .u64 0] := W_lit 255 255 0 0 0 (by decide +kernel) (by decide +kernel) (by decide +kernel) (by decide +kernel)
theorem W_256 : W 256 = .agg #[.int .u64 256, .int .u64 0, .int .u64 0, .int .u64 0] := W_lit 256 256 0 0 0 (by decide +kernel) (by decide +kernel) (by decide +kernel) (by decide +kernel)
theorem W_half : W (B64 * B64) = .agg #[.int .u64 0, .int .u64 0, .int .u64 1, .int .u64 0] := W_lit _ 0 0 1 0 (by decide +kernel) (by decide +kernel) (by decide +kernel) (by decide +kernel)
theorem W_half2 : W (B64 * B64 * (B64 * B64)) = .agg #[.int .u64 0, .int .u64 0, .int .u64 0, .int .u64 0] := W_lit _ 0 0 0 0 (by decide +kernel) (by decide +kernel) (by decide +kernel) (by decide +kernel)
theorem W_m1 : W (sb 0 1) = .agg #[.int .u64 18446744073709551615, .int .u64 18446744073709551615, .int .u64 18446744073709551615, .int .u64 18446744073709551615] := W_lit _ _ _ _ _ (by decide +kernel) (by decide +kernel) (by decide +kernel) (by decide +kernel)
theorem W_wrap : W (sumN (fun k => if k = 0 then sb 0 1 else 1) 2) = .agg #[.int .u64 0, .int .u64 0, .int .u64 0, .int .u64 0] := W_lit _ 0 0 0 0 (by decide +kernel) (by decide +kernel) (by decide +kernel) (by decide +kernel)

theorem text_works (w : World) :
    Calls Tryz.prog 68 #[.agg #[.int .u64 255, .int .u64 0, .int .u64 0, .int .u64 0]] w fun e w' => e = .returned (.string ⟨#[48, 120, 102, 102]⟩) ∧ Below w.heap.size w w' := by
  have h := text_any 255 w
  rwa [W_255, show txtL 255 = [48, 120, 102, 102] from by decide +kernel] at h
theorem read_works (b cap : Nat) (w : World) (hb : b < w.heap.size) (h0 : w.cell? ⟨b, 0, none⟩ = some (.int .u8 1)) (h1 : w.cell? ⟨b, 1, none⟩ = some (.int .u8 0)) :
    Calls Tryz.prog 71 #[.slice (some ⟨b, 0, none⟩) 2 cap] w fun e w' => e = .returned (.tuple #[.agg #[.int .u64 256, .int .u64 0, .int .u64 0, .int .u64 0], .int .i64 0]) ∧ Below w.heap.size w w' := by
  have h := read_any b 0 2 cap (fun k => if k = 0 then 1 else 0) w (by omega) hb (fun k hk => by
    match k, hk with
    | 0, _ => exact ⟨by simp, by simpa using h0⟩
    | 1, _ => exact ⟨by simp, by simpa using h1⟩)
  rwa [show numB (fun k => if k = 0 then 1 else 0) 2 = 256 from rfl, W_256] at h
theorem parse_w1 (w : World) :
    Calls Tryz.prog 63 #[.string ⟨#[48, 120, 102, 102]⟩] w fun e w' => e = .returned (.tuple #[.agg #[.int .u64 255, .int .u64 0, .int .u64 0, .int .u64 0], .int .i64 0]) ∧ Below w.heap.size w w' := by
  have h := parse_ok ⟨#[48, 120, 102, 102]⟩ ⟨#[102, 102]⟩ (by decide) rfl rfl (by decide) (.inl (by decide)) (by decide) w
  rwa [show numD (⟨#[102, 102]⟩ : ByteArray).data.toList (⟨#[102, 102]⟩ : ByteArray).size = 255 from rfl, W_255] at h
theorem parse_w2 (w : World) :
    Calls Tryz.prog 63 #[.string ⟨#[48, 120, 48, 102]⟩] w fun e w' => e = .returned (.tuple #[.agg #[.int .u64 0, .int .u64 0, .int .u64 0, .int .u64 0], .int .i64 110]) ∧ Below w.heap.size w w' := by
  have h := parse_bad ⟨#[48, 120, 48, 102]⟩ ⟨#[48, 102]⟩ true (by decide) rfl rfl (.inr (.inr (.inl ⟨by decide, rfl, rfl, by decide +kernel⟩))) w
  rwa [W_zero] at h
theorem parse_w3 (w : World) :
    Calls Tryz.prog 63 #[.string ⟨#[102, 102]⟩] w fun e w' => e = .returned (.tuple #[.agg #[.int .u64 0, .int .u64 0, .int .u64 0, .int .u64 0], .int .i64 110]) ∧ Below w.heap.size w w' := by
  have h := parse_bad ⟨#[102, 102]⟩ ⟨#[102, 102]⟩ false (by decide) rfl rfl (.inl rfl) w
  rwa [W_zero] at h

theorem Blk.below {X Y : World} {g : Nat} {t : TypeId} {cs : Array Value} (h : Blk X g t cs) (k : Below X.heap.size X Y) : Blk Y g t cs := (k.block g h.lt).trans h
theorem eq_same (t : TypeId) (ht : Tryz.prog.underlying t = some (.array 4 22)) (a b c d : Int) (w : World) : (binOp .eql t (.agg #[.int .u64 a, .int .u64 b, .int .u64 c, .int .u64 d]) (.agg #[.int .u64 a, .int .u64 b, .int .u64 c, .int .u64 d])).run Tryz.prog w = .ok (.bool true) w := by
  obtain ⟨i, hi⟩ := Option.isSome_iff_exists.1 info_u64
  have f : ∀ j, j < 4 → (#[Value.int .u64 a, .int .u64 b, .int .u64 c, .int .u64 d] : Array Value)[j]? = some (.int .u64 (([a, b, c, d] : List Int).getD j 0)) := fun j hj => by
    match j, hj with
    | 0, _ | 1, _ | 2, _ | 3, _ => rfl
  rw [run_eql_ints ht (k := .u64) (by kernel_rfl) hi (by kernel_rfl) _ _ (fun j => ([a, b, c, d] : List Int).getD j 0) (fun j => ([a, b, c, d] : List Int).getD j 0) (fun j hj => ⟨f j hj, f j hj⟩) w]
  simp
theorem eq_sameW (a b c d : Int) (w : World) : (binOp .eql 58 (.agg #[.int .u64 a, .int .u64 b, .int .u64 c, .int .u64 d]) (.agg #[.int .u64 a, .int .u64 b, .int .u64 c, .int .u64 d])).run Tryz.prog w = .ok (.bool true) w := eq_same _ (by kernel_rfl) a b c d w
theorem bstep' {w W w1 : World} (k : Below W.heap.size W w1) (h : Below w.heap.size w W) : Below w.heap.size w w1 := bstep h k

end Go.Proofs.YtenepkgjdoddgaaGreatDoor

/- Facts for WordHolds and WordSums: texts tell words apart; the sum of two. -/
namespace Go.Proofs.YtenepkgjdoddgaaGreatDoor
open Go.RowKit

/-! Unlike words have unlike texts. -/
def valL (l : List UInt8) : Nat := l.foldl (fun n b => n * 16 + dv b) 0
theorem valL_zero (l : List UInt8) : valL (48 :: l) = valL l := rfl
theorem valL_trim (l : List UInt8) : valL (Lib.trimLeftB l 48) = valL l := by
  unfold Lib.trimLeftB
  induction l with
  | nil => rfl
  | cons b l ih =>
    rw [List.dropWhile_cons]
    by_cases h : (b == 48) = true
    · rw [if_pos h, ih]
      have : b = 48 := by simpa using h
      subst this; rfl
    · rw [if_neg h]
theorem valL_snoc (l : List UInt8) (b : UInt8) : valL (l ++ [b]) = valL l * 16 + dv b := by unfold valL; rw [List.foldl_append]; rfl
theorem dv_dg : ∀ n : Fin 16, dv (UInt8.ofNat (dgN n.val)) = n.val := by decide +kernel
theorem hex_val (a : Nat) : ∀ k, k ≤ 64 → valL ((List.range k).map fun p => UInt8.ofNat (dgN (nib a (63 - p)))) = a / 16 ^ (64 - k) % 16 ^ k
  | 0, _ => by simp [valL, Nat.mod_one]
  | k + 1, h => by
    rw [List.range_succ, List.map_append, List.map_cons, List.map_nil, valL_snoc, hex_val a k (by omega), dv_dg ⟨nib a (63 - k), nib_lt a _⟩]
    show a / 16 ^ (64 - k) % 16 ^ k * 16 + nib a (63 - k) = _
    unfold nib
    have e : 64 - k = (63 - k) + 1 := by omega
    rw [show 64 - (k + 1) = 63 - k from by omega, e, Nat.pow_succ, ← Nat.div_div_eq_div_mul]
    generalize a / 16 ^ (63 - k) = m
    rw [Nat.pow_succ', Nat.mod_mul]
    omega
theorem MM_16 : MM = 16 ^ 64 := by rw [MM_eq]
theorem hexL_val (a : Nat) (h : a < MM) : valL (hexL a) = a := by
  unfold hexL
  rw [hex_val a 64 (by omega)]
  simp only [Nat.sub_self, Nat.pow_zero, Nat.div_one]
  exact Nat.mod_eq_of_lt (by rw [← MM_16]; exact h)
theorem txtL_val (a : Nat) (h : a < MM) : valL ((txtL a).drop 2) = a := by
  have e := valL_trim (hexL a)
  rw [hexL_val a h] at e
  unfold txtL
  show valL (if (Lib.trimLeftB (hexL a) 48).isEmpty then [48] else Lib.trimLeftB (hexL a) 48) = a
  by_cases g : (Lib.trimLeftB (hexL a) 48).isEmpty = true
  · rw [if_pos g]
    have : Lib.trimLeftB (hexL a) 48 = [] := by simpa using g
    rw [this] at e; rw [← e]; rfl
  · rw [if_neg g]; exact e
theorem txt_eq (a b : Nat) (ha : a < MM) (hb : b < MM) : (txtL a == txtL b) = (a % MM == b % MM) := by
  rw [Nat.mod_eq_of_lt ha, Nat.mod_eq_of_lt hb, Bool.eq_iff_iff]
  simp only [beq_iff_eq]
  exact ⟨fun h => by rw [← txtL_val a ha, ← txtL_val b hb, h], fun h => by rw [h]⟩

theorem eqW_true (x y : Nat) (h : x % MM = y % MM) (w : World) : (binOp .eql 58 (W x) (W y)).run Tryz.prog w = .ok (.bool true) w := by
  rw [eqW, h]; simp
theorem Blk.drewn {X : World} {g : Nat} {t : TypeId} {cs : Array Value} (h : Blk X g t cs) : Blk X.drew g t cs := h
theorem Blk.new1 (X : World) (o : Obj) (t : TypeId) (cs : Array Value) : Blk ((X.alloc o).alloc (.cells cs t)) (X.heap.size + 1) t cs := by
  have h := Blk.new (X.alloc o) t cs
  rwa [World.size_alloc] at h
theorem sb_add (a b : Nat) : sb (a + b) b % MM = a % MM := by
  unfold sb
  have h := Nat.mod_lt b MM_pos
  have e : a + b + (MM - b % MM) = a + MM * (b / MM + 1) := by
    have := Nat.div_add_mod b MM
    rw [Nat.mul_add]; omega
  rw [e, Nat.add_mul_mod_self_left]
theorem cmpN_bd (a b : Nat) : -1 ≤ cmpN a b ∧ cmpN a b ≤ 1 := by
  unfold cmpN; split
  · omega
  · split <;> omega

end Go.Proofs.YtenepkgjdoddgaaGreatDoor

/- Bytes and text, there and back (WordBytes): what the calls come to. -/
namespace Go.Proofs.YtenepkgjdoddgaaGreatDoor
open Go.RowKit
attribute [local go_sem] ix0 ix1 ix2 ix3
theorem W_congr {x y : Nat} (h : x % MM = y % MM) : W x = W y := by
  unfold W; rw [lb_congr h 0 (by omega), lb_congr h 1 (by omega), lb_congr h 2 (by omega), lb_congr h 3 (by omega)]
theorem numB_by (a : Nat) : ∀ n, n ≤ 32 → numB (fun k => byA a (31 - k)) n = a / 256 ^ (32 - n) % 256 ^ n
  | 0, _ => by simp [numB, Nat.mod_one]
  | n + 1, h => by
    show numB (fun k => byA a (31 - k)) n * 256 + byA a (31 - n) = _
    rw [numB_by a n (by omega)]
    unfold byA
    have e : 32 - n = (31 - n) + 1 := by omega
    rw [show 32 - (n + 1) = 31 - n by omega, e, Nat.pow_succ, ← Nat.div_div_eq_div_mul]
    generalize a / 256 ^ (31 - n) = m
    rw [Nat.pow_succ', Nat.mod_mul]
    omega
/-- Of a word's bytes the word is read. -/
theorem read_back (a b : Nat) (w : World) (hb : Blk w b 5 (byC a 32)) :
    Calls Tryz.prog 71 #[.slice (some ⟨b, 0, none⟩) 32 32] w fun e w' => e = .returned (.tuple #[W a, .int .i64 0]) ∧ Below w.heap.size w w' := by
  have h := read_any b 0 32 32 (fun k => byA a (31 - k)) w (by omega) hb.lt (fun k hk => ⟨byA_lt _ _, (cell_of_row w b _ _ _ _ hb).trans (by rw [Nat.zero_add, byC_get _ _ _ hk, if_pos (by omega)])⟩)
  rwa [numB_by a 32 (by omega), W_congr (x := a / 256 ^ (32 - 32) % 256 ^ 32) (y := a) (by rw [Nat.sub_self, Nat.pow_zero, Nat.div_one, ← MM_256, Nat.mod_mod])] at h
/-- Of a word's text the word is read. -/
theorem dv_ok (a k : Nat) : dv (dgA a k) < 16 := by
  have h := dv_dg ⟨_, nib_lt a (63 - k)⟩
  unfold dgA; rw [h]; exact nib_lt a _
theorem txA_ok (a : Nat) : ∀ k, ∀ x ∈ txA a k, dv x < 16
  | 0, x, h => by cases h
  | k + 1, x, h => by
    rw [txA_succ] at h
    split at h
    · rcases List.mem_append.1 h with h | h
      · exact txA_ok a k x h
      · rw [List.mem_singleton.1 h]; exact dv_ok a k
    · exact txA_ok a k x h
theorem txA_lead (a : Nat) : ∀ k, k ≤ 63 → ∀ x l, txA a k = x :: l → x ≠ 48
  | 0, _, x, l, h => by cases h
  | k + 1, hk, x, l, h => by
    rw [txA_succ] at h
    split at h
    · rename_i hc
      cases ht : txA a k with
      | nil =>
        rw [ht] at h hc
        simp only [List.nil_append, List.cons.injEq] at h
        have h0 : 0 < nib a (63 - k) := by
          rcases hc with g | g | g
          · exact absurd rfl g
          · exact g
          · omega
        have h1 := dgA_48 a k
        rw [← h.1]
        intro g
        rw [g] at h1
        simp at h1
        omega
      | cons y t =>
        rw [ht, List.cons_append] at h
        simp only [List.cons.injEq] at h
        rw [← h.1]
        exact txA_lead a k (by omega) y t ht
    · exact txA_lead a k (by omega) x l h
theorem numD_take (l : List UInt8) : ∀ k, k ≤ l.length → numD l k = valL (l.take k)
  | 0, _ => rfl
  | k + 1, h => by
    rw [List.take_add_one, List.getElem?_eq_getElem (by omega)]
    show numD l k * 16 + dv (l.getD k 0) = valL (l.take k ++ [l[k]])
    rw [valL_snoc, numD_take l k (by omega)]
    congr 2
    simp [List.getD, List.getElem?_eq_getElem (show k < l.length by omega)]
theorem numD_val (l : List UInt8) : numD l l.length = valL l := by rw [numD_take l _ (Nat.le_refl _), List.take_length]
theorem txA_last (a : Nat) : txA a 64 = txA a 63 ++ [dgA a 63] := by
  rw [show (64 : Nat) = 63 + 1 from rfl, txA_succ a 63, if_pos (Or.inr (Or.inr rfl))]
theorem txA_val (a : Nat) (ha : a < MM) : valL (txA a 64) = a := by
  have h := txtL_val a ha
  rw [txA_txtL] at h
  generalize txA a 64 = T at *
  exact h
theorem txA_head (a : Nat) : ∃ x l, txA a 64 = x :: l ∧ (x ≠ 48 ∨ l = []) := by
  rw [txA_last]
  have hl := txA_lead a 63 (Nat.le_refl _)
  generalize txA a 63 = T at *
  cases T with
  | nil => exact ⟨_, _, rfl, .inr rfl⟩
  | cons x l => exact ⟨_, _, rfl, .inl (hl x l rfl)⟩
theorem parse_list (T : List UInt8) (hlen : T.length ≤ 64) (x : UInt8) (l : List UInt8) (hT : T = x :: l) (hx : x ≠ 48 ∨ l = []) (hok : ∀ y ∈ T, dv y < 16) (w : World) :
    Calls Tryz.prog 63 #[.string ⟨(48 :: 120 :: T).toArray⟩] w fun e w' => e = .returned (.tuple #[W (valL T), .int .i64 0]) ∧ Below w.heap.size w w' := by
  have hsz : (⟨T.toArray⟩ : ByteArray).size = T.length := by simp [ByteArray.size]
  have hpos : 0 < T.length := by rw [hT]; simp
  have h := parse_ok ⟨(48 :: 120 :: T).toArray⟩ ⟨T.toArray⟩ (by rw [hsz]; exact hlen)
    (show (⟨(Lib.trimPrefix (48 :: 120 :: T) [48, 120]).toArray⟩ : ByteArray) = _ by simp [Lib.trimPrefix, Lib.hasPrefix])
    (show Lib.hasPrefix (48 :: 120 :: T) [48, 120] = true by simp [Lib.hasPrefix])
    (by rw [hsz]; exact hpos)
    (show _ ∨ _ from by
      subst hT
      by_cases g : x = 48
      · right
        rcases hx with h | h
        · exact absurd g h
        · rw [h, g]; decide +kernel
      · left; exact g)
    (fun j hj => by
      rw [hsz] at hj
      have : T.getD j 0 ∈ T := by
        simp [List.getD, List.getElem?_eq_getElem hj]
      exact hok _ this) w
  rw [hsz] at h
  have e : numD T T.length = valL T := numD_val T
  rwa [show (⟨T.toArray⟩ : ByteArray).data.toList = T from rfl, e] at h
theorem parse_back (a : Nat) (ha : a < MM) (w : World) :
    Calls Tryz.prog 63 #[.string ⟨(txtL a).toArray⟩] w fun e w' => e = .returned (.tuple #[W a, .int .i64 0]) ∧ Below w.heap.size w w' := by
  obtain ⟨x, l, h1, h2⟩ := txA_head a
  have hlen := txA_len a 64
  have hok := txA_ok a 64
  have hv := txA_val a ha
  rw [txA_txtL]
  generalize txA a 64 = T at *
  have h := parse_list T hlen x l h1 h2 hok w
  rwa [hv] at h
end Go.Proofs.YtenepkgjdoddgaaGreatDoor

