/- Texts laid into one: Qd. -/
import Derived.Test.YtcdmaapjcckbmaaDoorVa
import Derived.Test.YtcdmaapjcckbmaaDoorWh
import Derived.ScopeJumps
import Derived.Deep.RegionHeld3
import Derived.Test.YtcdmaapjcckbmaaDoorXt
import Derived.Deep.QuietTactic
import Derived.BigQuiet
import Derived.Test.YtcdmaapjcckbmaaDoorXv
import Derived.OwnWalk
import Derived.Lib.BytesEntry
import Derived.Test.YtcdmaapjcckbmaaDoorQa
import Derived.Test.YtcdmaapjcckbmaaDoorXo
import Derived.Test.YtcdmaapjcckbmaaDoorXj
import Derived.Test.YtcdmaapjcckbmaaDoorXs
import Derived.Deep.LoopGhost
import Derived.Test.YtcdmaapjcckbmaaDoorQb
import Derived.Test.YtcdmaapjcckbmaaDoorWy
import Derived.Test.YtcdmaapjcckbmaaDoorXr
import Derived.Test.YtcdmaapjcckbmaaDoorQc
/- The reference's Text, by a contract. -/
namespace Go.Proofs.YtcdmaapjcckbmaaDoor
open Go.RowKit
attribute [local go_sem] ix0 ix1 ix2 ix3
/-- The letter of digit k from the top. -/
def dgA (a k : Nat) : UInt8 := UInt8.ofNat (dgN (nib a (63 - k)))
/-- What lies there ahead of digit k: no noughts ahead but a last one. -/
def txA (a : Nat) : Nat → List UInt8
  | 0 => []
  | k + 1 => if txA a k ≠ [] ∨ 0 < nib a (63 - k) ∨ k = 63 then txA a k ++ [dgA a k] else txA a k
theorem txA_succ (a k : Nat) : txA a (k + 1) = if txA a k ≠ [] ∨ 0 < nib a (63 - k) ∨ k = 63 then txA a k ++ [dgA a k] else txA a k := rfl
theorem dg_48 : ∀ n : Fin 16, (UInt8.ofNat (dgN n.val) == 48) = (n.val == 0) := by decide +kernel
theorem dgA_48 (a k : Nat) : (dgA a k == 48) = (nib a (63 - k) == 0) := dg_48 ⟨_, nib_lt a (63 - k)⟩
theorem hexL_take (a k : Nat) (h : k < 64) : (hexL a).take (k + 1) = (hexL a).take k ++ [dgA a k] := by
  have hl : (hexL a).length = 64 := by unfold hexL; simp
  rw [List.take_add_one]
  congr 1
  rw [List.getElem?_eq_getElem (by omega)]
  unfold hexL dgA
  simp
theorem trim_snoc (l : List UInt8) (x : UInt8) : Lib.trimLeftB (l ++ [x]) 48 = if Lib.trimLeftB l 48 = [] then (if (x == 48) = true then [] else [x]) else Lib.trimLeftB l 48 ++ [x] := by
  unfold Lib.trimLeftB
  rw [List.dropWhile_append]
  by_cases h : List.dropWhile (fun x => x == 48) l = []
  · rw [if_pos (by rw [h]; rfl), if_pos h]
    by_cases g : (x == 48) = true
    · rw [if_pos g]; simp [g]
    · rw [if_neg g]; simp [g]
  · rw [if_neg (by simpa using h), if_neg h]
theorem txA_trim (a : Nat) : ∀ k, k ≤ 63 → txA a k = Lib.trimLeftB ((hexL a).take k) 48
  | 0, _ => by rw [List.take_zero]; rfl
  | k + 1, h => by
    rw [hexL_take a k (by omega), trim_snoc, ← txA_trim a k (by omega), dgA_48, txA_succ]
    by_cases h1 : txA a k = []
    · rw [if_pos h1]
      by_cases h2 : nib a (63 - k) = 0
      · rw [if_neg (by rintro (g | g | g) <;> first | exact g h1 | omega), if_pos (by simpa using h2), h1]
      · rw [if_pos (.inr (.inl (by omega))), if_neg (by simpa using h2), h1]; rfl
    · rw [if_neg h1, if_pos (.inl h1)]
theorem txA_txtL (a : Nat) : txtL a = 48 :: 120 :: txA a 64 := by
  have h := hexL_take a 63 (by omega)
  rw [show (hexL a).take (63 + 1) = hexL a from List.take_of_length_le (by unfold hexL; simp)] at h
  have ht : txA a 64 = txA a 63 ++ [dgA a 63] := by
    show txA a (63 + 1) = _
    rw [txA_succ, if_pos (Or.inr (Or.inr rfl))]
  have e : (if (Lib.trimLeftB (hexL a) 48).isEmpty then [48] else Lib.trimLeftB (hexL a) 48) = txA a 64 := by
    rw [h, trim_snoc, ← txA_trim a 63 (by omega), dgA_48, ht]
    generalize txA a 63 = t
    by_cases h1 : t = []
    · rw [if_pos h1, h1]
      by_cases h2 : nib a (63 - 63) = 0
      · have h3 : dgA a 63 = 48 := by
          have := dgA_48 a 63
          rw [h2] at this
          simpa using this
        rw [if_pos (by simpa using h2), h3]; rfl
      · have h2' : (nib a (63 - 63) == 0) = false := by simpa using h2
        rw [h2']; rfl
    · rw [if_neg h1]
      simp
  unfold txtL
  rw [e]

theorem dig_ex : ∀ n : Nat, n < 16 → (⟨#[48, 49, 50, 51, 52, 53, 54, 55, 56, 57, 97, 98, 99, 100, 101, 102]⟩ : ByteArray).extract n (n + 1) = ⟨#[UInt8.ofNat (dgN n)]⟩
  | 0, _ | 1, _ | 2, _ | 3, _ | 4, _ | 5, _ | 6, _ | 7, _ | 8, _ | 9, _ | 10, _ | 11, _ | 12, _ | 13, _ | 14, _ | 15, _ => by rfl
  | n + 16, h => absurd h (by omega)
theorem txA_len (a : Nat) : ∀ k, (txA a k).length ≤ k
  | 0 => Nat.le_refl _
  | k + 1 => by
    have := txA_len a k
    rw [txA_succ]
    split
    · simp; omega
    · omega
/-- 32 cells are laid into a block of noughts that is new. -/
theorem lay32 (a : Nat) (w wk : World) (hk : Below w.heap.size w wk) : ∃ wz, (storeCells ⟨wk.heap.size, 0, none⟩ (byC a 32).toList).run Tryd.prog (wk.alloc (.cells (byC 0 0) 97)) = .ok () wz ∧ Blk wz wk.heap.size 97 (byC a 32) ∧ Below w.heap.size w wz := by
  have hz := Blk.new wk 97 (byC 0 0)
  have h1 := byC_one a 32
  have ht := hz.there (byC a 32).size (by rw [byC_size, byC_size]; exact Nat.le_refl _)
  refine ⟨_, run_storeCells_cells wk.heap.size 0 (byC a 32).toList 0 _ (fun j hj => ?_) (fun j hj => ?_) (fun v hv => ?_), ?_, ?_⟩
  · exact (ht j (by simpa using hj)).1
  · exact (ht j (by simpa using hj)).2
  · exact (Array.all_eq_true_iff_forall_mem.1 h1) v (by simpa using hv)
  · exact blk_setCells hz (byC a 32) (by rw [byC_size, byC_size]) h1
  · exact below_setCells' hk.size _ 0 _ (balloc hk _)

end Go.Proofs.YtcdmaapjcckbmaaDoor

/- Layer word: the word of a text (word.Parse). -/
namespace Go.Proofs.YtcdmaapjcckbmaaDoor
open Go.RowKit

/-- Where Parse jumps to what is no text: the result's variable is at hand, still nought. -/
def PJ (B : Nat) (w0 : World) (a : Act) (w : World) : Prop := ∃ x0 x1 x3 x4 x5 x6 x7 x8 x9 x10 x11 x12 x13 x14 x15 x16 x17 x18 x19 x20 x21 x22 x23 x24 x25 x26 x27 x28 x29 x30 x31 x32 x33 x34 x35 x36 x37 x38 x39 x40 x41 x42 x43 x44 x45 x46 x47 x48 x49 : Value, a = { tmps := #[x0, x1, .pointer (some ⟨B, 0, none⟩), x3, x4, x5, x6, x7, x8, x9, x10, x11, x12, x13, x14, x15, x16, x17, x18, x19, x20, x21, x22, x23, x24, x25, x26, x27, x28, x29, x30, x31, x32, x33, x34, x35, x36, x37, x38, x39, x40, x41, x42, x43, x44, x45, x46, x47, x48, x49], defers := [] } ∧ Blk w B 40 #[.int .u64 0, .int .u64 0, .int .u64 0, .int .u64 0] ∧ Below w0.heap.size w0 w

/-- A letter's digit; 16: it is none's. -/
def dv (b : UInt8) : Nat := if 48 ≤ b.toNat ∧ b.toNat ≤ 57 then b.toNat - 48 else if 97 ≤ b.toNat ∧ b.toNat ≤ 102 then b.toNat - 87 else 16
theorem dv_all : ∀ n : Fin 256, Lib.indexByte [48, 49, 50, 51, 52, 53, 54, 55, 56, 57, 97, 98, 99, 100, 101, 102] (UInt8.ofNat n.val) = if dv (UInt8.ofNat n.val) < 16 then (dv (UInt8.ofNat n.val) : Int) else -1 := by decide +kernel
theorem dv_eq (b : UInt8) : Lib.indexByte [48, 49, 50, 51, 52, 53, 54, 55, 56, 57, 97, 98, 99, 100, 101, 102] b = if dv b < 16 then (dv b : Int) else -1 := by
  have h := dv_all ⟨b.toNat, b.toNat_lt⟩
  simpa using h
/-- The number of the first k digits. -/
def numD (l : List UInt8) : Nat → Nat
  | 0 => 0
  | k + 1 => numD l k * 16 + dv (l.getD k 0)

theorem cut_rest (s : ByteArray) (w : World) : Calls Tryd.prog 90 #[.string s, .string ⟨#[48, 120]⟩] w fun e w' => e = .returned (.tuple #[.string ⟨(Lib.trimPrefix s.data.toList [48, 120]).toArray⟩, .bool (Lib.hasPrefix s.data.toList [48, 120])]) ∧ w = w' := cutPrefix_any s ⟨#[48, 120]⟩ w

end Go.Proofs.YtcdmaapjcckbmaaDoor

/- The chapter's rows (exciselaw01.works): what each call comes to, and that all of them hold. -/
namespace Go.Proofs.YtcdmaapjcckbmaaDoor
open Go.RowKit

theorem W_lit (n : Nat) (a b c d : Int) (h0 : lb n 0 = a) (h1 : lb n 1 = b) (h2 : lb n 2 = c) (h3 : lb n 3 = d) : W n = .agg #[.int .u64 a, .int .u64 b, .int .u64 c, .int .u64 d] := by unfold W; rw [h0, h1, h2, h3]
theorem W_1 : W 1 = .agg #[.int .u64 1, .int .u64 0, .int .u64 0, .int .u64 0] := W_lit 1 1 0 0 0 (by decide +kernel) (by decide +kernel) (by decide +kernel) (by decide +kernel)
theorem W_2 : W 2 = .agg #[.int .u64 2, .int .u64 0, .int .u64 0, .int .u64 0] := W_lit 2 2 0 0 0 (by decide +kernel) (by decide +kernel) (by decide +kernel) (by decide +kernel)
theorem W_255 : W 255 = .agg #[.int .u64 255, .int .u64 0, .int .u64 0, .int .u64 0] := W_lit 255 255 0 0 0 (by decide +kernel) (by decide +kernel) (by decide +kernel) (by decide +kernel)
theorem W_256 : W 256 = .agg #[.int .u64 256, .int .u64 0, .int .u64 0, .int .u64 0] := W_lit 256 256 0 0 0 (by decide +kernel) (by decide +kernel) (by decide +kernel) (by decide +kernel)
theorem W_half : W (B64 * B64) = .agg #[.int .u64 0, .int .u64 0, .int .u64 1, .int .u64 0] := W_lit _ 0 0 1 0 (by decide +kernel) (by decide +kernel) (by decide +kernel) (by decide +kernel)
theorem W_half2 : W (B64 * B64 * (B64 * B64)) = .agg #[.int .u64 0, .int .u64 0, .int .u64 0, .int .u64 0] := W_lit _ 0 0 0 0 (by decide +kernel) (by decide +kernel) (by decide +kernel) (by decide +kernel)
theorem W_m1 : W (sb 0 1) = .agg #[.int .u64 18446744073709551615, .int .u64 18446744073709551615, .int .u64 18446744073709551615, .int .u64 18446744073709551615] := W_lit _ _ _ _ _ (by decide +kernel) (by decide +kernel) (by decide +kernel) (by decide +kernel)
theorem W_wrap : W (sumN (fun k => if k = 0 then sb 0 1 else 1) 2) = .agg #[.int .u64 0, .int .u64 0, .int .u64 0, .int .u64 0] := W_lit _ 0 0 0 0 (by decide +kernel) (by decide +kernel) (by decide +kernel) (by decide +kernel)

theorem of_int (z : Int) (w : World) :
    Calls Tryd.prog 66 #[.int .u64 z] w fun e w' => e = .returned (.agg #[.int .u64 z, .int .u64 0, .int .u64 0, .int .u64 0]) ∧ Below w.heap.size w w' := by
  go_enter Tryd.func66, Tryd.ntmps66
  go_wp2
  exact bodyPost_ret (v := .agg #[.int .u64 z, .int .u64 0, .int .u64 0, .int .u64 0]) (by simp [results, Tryd.results66, go_sem]) rfl ⟨rfl, (Below.refl _ _).alloc (Nat.le_refl _) _⟩

theorem read_works (b cap : Nat) (w : World) (hb : b < w.heap.size) (h0 : w.cell? ⟨b, 0, none⟩ = some (.int .u8 1)) (h1 : w.cell? ⟨b, 1, none⟩ = some (.int .u8 0)) :
    Calls Tryd.prog 42 #[.slice (some ⟨b, 0, none⟩) 2 cap] w fun e w' => e = .returned (.tuple #[.agg #[.int .u64 256, .int .u64 0, .int .u64 0, .int .u64 0], .int .i64 0]) ∧ Below w.heap.size w w' := by
  have h := read_any b 0 2 cap (fun k => if k = 0 then 1 else 0) w (by omega) hb (fun k hk => by
    match k, hk with
    | 0, _ => exact ⟨by simp, by simpa using h0⟩
    | 1, _ => exact ⟨by simp, by simpa using h1⟩)
  rwa [show numB (fun k => if k = 0 then 1 else 0) 2 = 256 from rfl, W_256] at h
theorem Blk.below {X Y : World} {g : Nat} {t : TypeId} {cs : Array Value} (h : Blk X g t cs) (k : Below X.heap.size X Y) : Blk Y g t cs := (k.block g h.lt).trans h
theorem eq_same (t : TypeId) (ht : Tryd.prog.underlying t = some (.array 4 23)) (a b c d : Int) (w : World) : (binOp .eql t (.agg #[.int .u64 a, .int .u64 b, .int .u64 c, .int .u64 d]) (.agg #[.int .u64 a, .int .u64 b, .int .u64 c, .int .u64 d])).run Tryd.prog w = .ok (.bool true) w := by
  obtain ⟨i, hi⟩ := Option.isSome_iff_exists.1 info_u64
  have f : ∀ j, j < 4 → (#[Value.int .u64 a, .int .u64 b, .int .u64 c, .int .u64 d] : Array Value)[j]? = some (.int .u64 (([a, b, c, d] : List Int).getD j 0)) := fun j hj => by
    match j, hj with
    | 0, _ | 1, _ | 2, _ | 3, _ => rfl
  rw [run_eql_ints ht (k := .u64) (by kernel_rfl) hi (by kernel_rfl) _ _ (fun j => ([a, b, c, d] : List Int).getD j 0) (fun j => ([a, b, c, d] : List Int).getD j 0) (fun j hj => ⟨f j hj, f j hj⟩) w]
  simp
theorem eq_sameW (a b c d : Int) (w : World) : (binOp .eql 40 (.agg #[.int .u64 a, .int .u64 b, .int .u64 c, .int .u64 d]) (.agg #[.int .u64 a, .int .u64 b, .int .u64 c, .int .u64 d])).run Tryd.prog w = .ok (.bool true) w := eq_same _ (by kernel_rfl) a b c d w
theorem bstep' {w W w1 : World} (k : Below W.heap.size W w1) (h : Below w.heap.size w W) : Below w.heap.size w w1 := bstep h k

end Go.Proofs.YtcdmaapjcckbmaaDoor

/- Facts for WordHolds and WordSums: texts tell words apart; the sum of two. -/
namespace Go.Proofs.YtcdmaapjcckbmaaDoor
open Go.RowKit

/-! Unlike words have unlike texts. -/
def valL (l : List UInt8) : Nat := l.foldl (fun n b => n * 16 + dv b) 0
theorem valL_zero (l : List UInt8) : valL (48 :: l) = valL l := rfl
theorem valL_trim (l : List UInt8) : valL (Lib.trimLeftB l 48) = valL l := by
  unfold Lib.trimLeftB
  induction l with
  | nil => rfl
  | cons b l ih =>
    rw [List.dropWhile_cons]
    by_cases h : (b == 48) = true
    · rw [if_pos h, ih]
      have : b = 48 := by simpa using h
      subst this; rfl
    · rw [if_neg h]
theorem valL_snoc (l : List UInt8) (b : UInt8) : valL (l ++ [b]) = valL l * 16 + dv b := by unfold valL; rw [List.foldl_append]; rfl
theorem dv_dg : ∀ n : Fin 16, dv (UInt8.ofNat (dgN n.val)) = n.val := by decide +kernel
theorem hex_val (a : Nat) : ∀ k, k ≤ 64 → valL ((List.range k).map fun p => UInt8.ofNat (dgN (nib a (63 - p)))) = a / 16 ^ (64 - k) % 16 ^ k
  | 0, _ => by simp [valL, Nat.mod_one]
  | k + 1, h => by
    rw [List.range_succ, List.map_append, List.map_cons, List.map_nil, valL_snoc, hex_val a k (by omega), dv_dg ⟨nib a (63 - k), nib_lt a _⟩]
    show a / 16 ^ (64 - k) % 16 ^ k * 16 + nib a (63 - k) = _
    unfold nib
    have e : 64 - k = (63 - k) + 1 := by omega
    rw [show 64 - (k + 1) = 63 - k from by omega, e, Nat.pow_succ, ← Nat.div_div_eq_div_mul]
    generalize a / 16 ^ (63 - k) = m
    rw [Nat.pow_succ', Nat.mod_mul]
    omega
theorem MM_16 : MM = 16 ^ 64 := by rw [MM_eq]
theorem hexL_val (a : Nat) (h : a < MM) : valL (hexL a) = a := by
  unfold hexL
  rw [hex_val a 64 (by omega)]
  simp only [Nat.sub_self, Nat.pow_zero, Nat.div_one]
  exact Nat.mod_eq_of_lt (by rw [← MM_16]; exact h)
theorem txtL_val (a : Nat) (h : a < MM) : valL ((txtL a).drop 2) = a := by
  have e := valL_trim (hexL a)
  rw [hexL_val a h] at e
  unfold txtL
  show valL (if (Lib.trimLeftB (hexL a) 48).isEmpty then [48] else Lib.trimLeftB (hexL a) 48) = a
  by_cases g : (Lib.trimLeftB (hexL a) 48).isEmpty = true
  · rw [if_pos g]
    have : Lib.trimLeftB (hexL a) 48 = [] := by simpa using g
    rw [this] at e; rw [← e]; rfl
  · rw [if_neg g]; exact e
theorem txt_eq (a b : Nat) (ha : a < MM) (hb : b < MM) : (txtL a == txtL b) = (a % MM == b % MM) := by
  rw [Nat.mod_eq_of_lt ha, Nat.mod_eq_of_lt hb, Bool.eq_iff_iff]
  simp only [beq_iff_eq]
  exact ⟨fun h => by rw [← txtL_val a ha, ← txtL_val b hb, h], fun h => by rw [h]⟩

theorem eqW_true (x y : Nat) (h : x % MM = y % MM) (w : World) : (binOp .eql 40 (W x) (W y)).run Tryd.prog w = .ok (.bool true) w := by
  rw [eqW, h]; simp
theorem Blk.drewn {X : World} {g : Nat} {t : TypeId} {cs : Array Value} (h : Blk X g t cs) : Blk X.drew g t cs := h
theorem Blk.new1 (X : World) (o : Obj) (t : TypeId) (cs : Array Value) : Blk ((X.alloc o).alloc (.cells cs t)) (X.heap.size + 1) t cs := by
  have h := Blk.new (X.alloc o) t cs
  rwa [World.size_alloc] at h
theorem sb_add (a b : Nat) : sb (a + b) b % MM = a % MM := by
  unfold sb
  have h := Nat.mod_lt b MM_pos
  have e : a + b + (MM - b % MM) = a + MM * (b / MM + 1) := by
    have := Nat.div_add_mod b MM
    rw [Nat.mul_add]; omega
  rw [e, Nat.add_mul_mod_self_left]
theorem cmpN_bd (a b : Nat) : -1 ≤ cmpN a b ∧ cmpN a b ≤ 1 := by
  unfold cmpN; split
  · omega
  · split <;> omega

end Go.Proofs.YtcdmaapjcckbmaaDoor

/- Bytes and text, there and back (WordBytes): what the calls come to. -/
namespace Go.Proofs.YtcdmaapjcckbmaaDoor
open Go.RowKit
attribute [local go_sem] ix0 ix1 ix2 ix3
theorem W_congr {x y : Nat} (h : x % MM = y % MM) : W x = W y := by
  unfold W; rw [lb_congr h 0 (by omega), lb_congr h 1 (by omega), lb_congr h 2 (by omega), lb_congr h 3 (by omega)]
theorem numB_by (a : Nat) : ∀ n, n ≤ 32 → numB (fun k => byA a (31 - k)) n = a / 256 ^ (32 - n) % 256 ^ n
  | 0, _ => by simp [numB, Nat.mod_one]
  | n + 1, h => by
    show numB (fun k => byA a (31 - k)) n * 256 + byA a (31 - n) = _
    rw [numB_by a n (by omega)]
    unfold byA
    have e : 32 - n = (31 - n) + 1 := by omega
    rw [show 32 - (n + 1) = 31 - n by omega, e, Nat.pow_succ, ← Nat.div_div_eq_div_mul]
    generalize a / 256 ^ (31 - n) = m
    rw [Nat.pow_succ', Nat.mod_mul]
    omega
/-- Of a word's bytes the word is read. -/
theorem read_back (a b : Nat) (w : World) (hb : Blk w b 5 (byC a 32)) :
    Calls Tryd.prog 42 #[.slice (some ⟨b, 0, none⟩) 32 32] w fun e w' => e = .returned (.tuple #[W a, .int .i64 0]) ∧ Below w.heap.size w w' := by
  have h := read_any b 0 32 32 (fun k => byA a (31 - k)) w (by omega) hb.lt (fun k hk => ⟨byA_lt _ _, (cell_of_row w b _ _ _ _ hb).trans (by rw [Nat.zero_add, byC_get _ _ _ hk, if_pos (by omega)])⟩)
  rwa [numB_by a 32 (by omega), W_congr (x := a / 256 ^ (32 - 32) % 256 ^ 32) (y := a) (by rw [Nat.sub_self, Nat.pow_zero, Nat.div_one, ← MM_256, Nat.mod_mod])] at h
/-- Of a word's text the word is read. -/
theorem dv_ok (a k : Nat) : dv (dgA a k) < 16 := by
  have h := dv_dg ⟨_, nib_lt a (63 - k)⟩
  unfold dgA; rw [h]; exact nib_lt a _
theorem txA_ok (a : Nat) : ∀ k, ∀ x ∈ txA a k, dv x < 16
  | 0, x, h => by cases h
  | k + 1, x, h => by
    rw [txA_succ] at h
    split at h
    · rcases List.mem_append.1 h with h | h
      · exact txA_ok a k x h
      · rw [List.mem_singleton.1 h]; exact dv_ok a k
    · exact txA_ok a k x h
theorem txA_lead (a : Nat) : ∀ k, k ≤ 63 → ∀ x l, txA a k = x :: l → x ≠ 48
  | 0, _, x, l, h => by cases h
  | k + 1, hk, x, l, h => by
    rw [txA_succ] at h
    split at h
    · rename_i hc
      cases ht : txA a k with
      | nil =>
        rw [ht] at h hc
        simp only [List.nil_append, List.cons.injEq] at h
        have h0 : 0 < nib a (63 - k) := by
          rcases hc with g | g | g
          · exact absurd rfl g
          · exact g
          · omega
        have h1 := dgA_48 a k
        rw [← h.1]
        intro g
        rw [g] at h1
        simp at h1
        omega
      | cons y t =>
        rw [ht, List.cons_append] at h
        simp only [List.cons.injEq] at h
        rw [← h.1]
        exact txA_lead a k (by omega) y t ht
    · exact txA_lead a k (by omega) x l h
theorem numD_take (l : List UInt8) : ∀ k, k ≤ l.length → numD l k = valL (l.take k)
  | 0, _ => rfl
  | k + 1, h => by
    rw [List.take_add_one, List.getElem?_eq_getElem (by omega)]
    show numD l k * 16 + dv (l.getD k 0) = valL (l.take k ++ [l[k]])
    rw [valL_snoc, numD_take l k (by omega)]
    congr 2
    simp [List.getD, List.getElem?_eq_getElem (show k < l.length by omega)]
theorem numD_val (l : List UInt8) : numD l l.length = valL l := by rw [numD_take l _ (Nat.le_refl _), List.take_length]
theorem txA_last (a : Nat) : txA a 64 = txA a 63 ++ [dgA a 63] := by
  rw [show (64 : Nat) = 63 + 1 from rfl, txA_succ a 63, if_pos (Or.inr (Or.inr rfl))]
theorem txA_val (a : Nat) (ha : a < MM) : valL (txA a 64) = a := by
  have h := txtL_val a ha
  rw [txA_txtL] at h
  generalize txA a 64 = T at *
  exact h
theorem txA_head (a : Nat) : ∃ x l, txA a 64 = x :: l ∧ (x ≠ 48 ∨ l = []) := by
  rw [txA_last]
  have hl := txA_lead a 63 (Nat.le_refl _)
  generalize txA a 63 = T at *
  cases T with
  | nil => exact ⟨_, _, rfl, .inr rfl⟩
  | cons x l => exact ⟨_, _, rfl, .inl (hl x l rfl)⟩
end Go.Proofs.YtcdmaapjcckbmaaDoor

/- The reference's Digit and Parse, by contracts. -/
namespace Go.Proofs.YtcdmaapjcckbmaaDoor
open Go.RowKit
attribute [local go_sem] ix0 ix1 ix2 ix3
set_option maxRecDepth 100000 in
theorem dig_ix64 (n : Nat) (h : n < 16) (w : World) : (Instr.index 9 (.string ⟨#[48, 49, 50, 51, 52, 53, 54, 55, 56, 57, 97, 98, 99, 100, 101, 102]⟩) (.int .i64 n)).run Tryd.prog w = .ok (.int .u8 (dgN n)) w := by
  match n, h with
  | 0, _ | 1, _ | 2, _ | 3, _ | 4, _ | 5, _ | 6, _ | 7, _ | 8, _ | 9, _ | 10, _ | 11, _ | 12, _ | 13, _ | 14, _ | 15, _ => rfl
  | n + 16, h => exact absurd h (by omega)
theorem dv_of (b : UInt8) (k : Nat) (h : k < 16) (e : dgN k = b.toNat) : dv b = k := by
  unfold dv dgN at *
  split at e <;> (split <;> (try split)) <;> omega
theorem dgN_dv (b : UInt8) (h : dv b < 16) : dgN (dv b) = b.toNat := by
  unfold dv dgN at *
  split at h
  · rename_i g; rw [if_pos g]; split <;> omega
  · rename_i g
    rw [if_neg g]
    split at h
    · rename_i g2; rw [if_pos g2]; split <;> omega
    · omega
set_option maxRecDepth 100000 in
theorem rdigit_any (b : UInt8) (w : World) :
    Calls Tryd.prog 73 #[.int .u8 b.toNat] w fun e w' => e = .returned (.int .i64 (if dv b < 16 then (dv b : Int) else -1)) ∧ w = w' := by
  obtain ⟨r, hr⟩ : ∃ r : Int, (if dv b < 16 then (dv b : Int) else -1) = r := ⟨_, rfl⟩
  rw [hr]
  have HR := Lib.hid hr
  clear hr
  go_enter Tryd.func73, Tryd.ntmps73
  go_wp2_with fail
  go_loopw [3] (fun i wr => ∃ k : Nat, k ≤ 16 ∧ i = .int .i64 k ∧ (∀ j, j < k → dgN j ≠ b.toNat) ∧ wr = w) (fun i _ => 16 - (intOf i).toNat)
  case atStart => exact ⟨0, by omega, rfl, fun j h => by omega, rfl⟩
  case round =>
    obtain ⟨k, hk, rfl, hno, rfl⟩ := hrel
    have HN := Lib.hid hno
    clear hno
    by_cases hlt : k < 16
    · have hix := dig_ix64 k hlt wr
      by_cases he : dgN k = b.toNat
      · have E : Hid ((k : Int) = r) := by show _ = _; rw [← HR.out, dv_of b k hlt he, if_pos hlt]
        have he' : ((dgN k : Nat) : Int) = (b.toNat : Int) := by rw [he]
        rw [he'] at hix
        clear he he'
        go_wp2
        go_ret
        rw [E.out]
        exact ⟨rfl, rfl⟩
      · have he' : (((dgN k : Nat) : Int) == (b.toNat : Int)) = false := by simp; omega
        have HE := Lib.hid he
        clear he
        go_wp2
        exact ⟨⟨k + 1, by omega, by go_num, fun j hj => by
          rcases Nat.lt_succ_iff_lt_or_eq.1 hj with h | h
          · exact HN.out j h
          · subst h; exact HE.out, trivial⟩, by simp [intOf]; omega⟩
    · obtain rfl : k = 16 := by omega
      have E : Hid (-1 = r) := by
        show _ = _
        rw [← HR.out, if_neg (fun h => HN.out (dv b) h (dgN_dv b h))]
      go_wp2
      go_ret
      rw [← E.out]
      exact ⟨rfl, rfl⟩

theorem blk_set4 {w : World} {g : Nat} {t : TypeId} {s : Nat} (h : Blk w g t (Wc s)) (a b c d : Int) :
    Blk ((((w.setCell ⟨g, 0, none⟩ (.int .u64 a)).setCell ⟨g, 1, none⟩ (.int .u64 b)).setCell ⟨g, 2, none⟩ (.int .u64 c)).setCell ⟨g, 3, none⟩ (.int .u64 d)) g t #[.int .u64 a, .int .u64 b, .int .u64 c, .int .u64 d] :=
  heap_setCell_same _ g 3 _ _ _ (heap_setCell_same _ g 2 _ _ _ (heap_setCell_same _ g 1 _ _ _ (heap_setCell_same w g 0 _ _ _ h)))
theorem blk_set4_far {w : World} {p g : Nat} {t : TypeId} {cs : Array Value} (h : Blk w p t cs) (hne : p ≠ g) (a b c d : Int) :
    Blk ((((w.setCell ⟨g, 0, none⟩ (.int .u64 a)).setCell ⟨g, 1, none⟩ (.int .u64 b)).setCell ⟨g, 2, none⟩ (.int .u64 c)).setCell ⟨g, 3, none⟩ (.int .u64 d)) p t cs :=
  (Below.heap_setCell _ ⟨g, 3, none⟩ _ p hne).trans ((Below.heap_setCell _ ⟨g, 2, none⟩ _ p hne).trans ((Below.heap_setCell _ ⟨g, 1, none⟩ _ p hne).trans ((Below.heap_setCell _ ⟨g, 0, none⟩ _ p hne).trans h)))
theorem below_set4 {n : Nat} {w w' : World} (h : Below n w w') {g : Nat} (hg : n ≤ g) (a b c d : Int) :
    Below n w ((((w'.setCell ⟨g, 0, none⟩ (.int .u64 a)).setCell ⟨g, 1, none⟩ (.int .u64 b)).setCell ⟨g, 2, none⟩ (.int .u64 c)).setCell ⟨g, 3, none⟩ (.int .u64 d)) :=
  (((h.setCell (p := ⟨g, 0, none⟩) hg _).setCell (p := ⟨g, 1, none⟩) hg _).setCell (p := ⟨g, 2, none⟩) hg _).setCell (p := ⟨g, 3, none⟩) hg _

end Go.Proofs.YtcdmaapjcckbmaaDoor

/- code: the reference: bytes as text (Hex). -/
namespace Go.Proofs.YtcdmaapjcckbmaaDoor
open Go.RowKit Go.Shelf

def hxD (d : Nat) : UInt8 := UInt8.ofNat (hx d)
theorem hxB_snoc (l : List Nat) (x : Nat) : hxB (l ++ [x]) = hxB l ++ [hxD (x / 16)] ++ [hxD (x % 16)] := by
  unfold hxB hxD; rw [hxL_snoc, List.map_append, List.append_assoc]; rfl
theorem hexS_at' : ∀ k : Fin 16, (hexS.extract k.val (k.val + 1)).data.toList = [hxD k.val] := by decide +kernel
theorem hexS_at (k : Nat) (h : k < 16) : hexS.extract k (k + 1) = ⟨[hxD k].toArray⟩ := by
  have := hexS_at' ⟨k, h⟩
  dsimp only at this
  rw [← this]
set_option maxRecDepth 100000 in
set_option maxHeartbeats 4000000 in
theorem rhex_any (B : Nat) (v : Value) (l : List Nat) (hl : l.length ≤ 1000) (w : World) (hv : Bto B w v l) :
    Calls Tryd.prog 54 #[v] w fun e w' => e = .returned (.string ⟨(hxB l).toArray⟩) ∧ Below w.heap.size w w' := by
  obtain ⟨x0, c0, rfl⟩ : ∃ x0 c0, v = .slice x0 l.length c0 := by obtain ⟨_, x, c, h, _⟩ := hv; exact ⟨x, c, h⟩
  obtain ⟨n, hn⟩ : ∃ n, l.length = n := ⟨_, rfl⟩
  have HN := Lib.hid hn
  rw [hn] at hv hl ⊢
  have H0 := Lib.hid (And.intro hv hl)
  clear hv hl hn
  go_enter Tryd.func54, Tryd.ntmps54
  go_wp2_with fail
  go_loopw [3, 4] (fun s t wr => ∃ (i : Nat), t = .int .i64 i ∧ s = .string ⟨(hxB (l.take i)).toArray⟩ ∧ i ≤ n ∧ Below w.heap.size w wr) (fun _ t _ => n - (intOf t).toNat)
  case atStart => exact ⟨0, rfl, rfl, by omega, Below.refl _ _⟩
  case round =>
    obtain ⟨i, rfl, rfl, hi, hW⟩ := hrel
    obtain ⟨hv, hl⟩ := H0.out
    have hn := HN.out
    have hvr := hv.new hW
    have HW := Lib.hid hW
    by_cases hlt : i < n
    · obtain ⟨h1, x1, c1, e1, h3, h4, h5⟩ := hvr
      obtain ⟨b, o, e2, hb1, hb2, hc⟩ := h5 (by intro e; rw [e] at hn; simp at hn; omega)
      injection e1 with e3 e4 e5
      subst e3
      subst e2
      obtain ⟨x, hx⟩ : ∃ x, l[i]? = some x := ⟨_, List.getElem?_eq_getElem (by omega)⟩
      have k1 : wr.cell? ⟨b, o + i, none⟩ = some (.int .u8 (x : Nat)) := hc i x hx
      have hx2 : x < 256 := h1 x (List.mem_of_getElem? hx)
      have g0 : (i : Int) < (n : Int) := by omega
      have g1 : (0 : Int) ≤ (i : Int) := by omega
      have g2 : IntKind.i64.wrap ((i : Int) + 1) = ((i + 1 : Nat) : Int) := IntWalk.i64_in _ (by omega)
      obtain ⟨p, hp⟩ : ∃ p, x / 16 = p := ⟨_, rfl⟩
      obtain ⟨q, hq⟩ : ∃ q, x % 16 = q := ⟨_, rfl⟩
      have hp16 : p < 16 := by omega
      have hq16 : q < 16 := by omega
      have g3 : IntKind.u8.wrap ((x : Int) / 16) = (p : Int) := by
        rw [show (x : Int) / 16 = (p : Int) from by omega]
        exact IntWalk.u8_in _ (by omega)
      have g4 : IntKind.u8.wrap ((x : Int) % 16) = (q : Int) := by
        rw [show (x : Int) % 16 = (q : Int) from by omega]
        exact IntWalk.u8_in _ (by omega)
      have g5 : IntKind.u8.wrap ((p : Int) + 1) = (p : Int) + 1 := IntWalk.u8_in _ (by omega)
      have g6 : IntKind.u8.wrap ((q : Int) + 1) = (q : Int) + 1 := IntWalk.u8_in _ (by omega)
      have g7 : (p : Int) < 16 := by omega
      have g8 : (q : Int) < 16 := by omega
      have g9 : (0 : Int) ≤ (p : Int) + 1 := by omega
      have g10 : (0 : Int) ≤ (q : Int) + 1 := by omega
      have g11 : (p : Int) + 1 ≤ 16 := by omega
      have g12 : (q : Int) + 1 ≤ 16 := by omega
      have g13 : (p : Int) ≤ (p : Int) + 1 := by omega
      have g14 : (q : Int) ≤ (q : Int) + 1 := by omega
      have hlen : (hxB (l.take i)).length ≤ 2002 := by rw [hxB_len, List.length_take]; omega
      have g15 : ¬ 9223372036854775807 < (hxB (l.take i)).length + (min (p + 1) 16 - p) := by omega
      have g16 : ¬ 9223372036854775807 < (hxB (l.take i)).length + (min (p + 1) 16 - p) + (min (q + 1) 16 - q) := by omega
      have HI := Lib.hid (And.intro hx (And.intro hp hq))
      clear hx hp hq hv hl hn hW hx2 h1 h3 h4 h5 hc hb1 hb2 e4 e5
      go_wp2_with fail
      go_quiet (fail)
      go_wp2_with fail
      have hs : hxB (l.take (i + 1)) = hxB (l.take i) ++ [hxD p] ++ [hxD q] := by rw [List.take_add_one, HI.out.1, ← HI.out.2.1, ← HI.out.2.2]; exact hxB_snoc _ _
      exact ⟨⟨i + 1, congrArg (Value.int .i64) (by omega), by rw [hexS_at p (by omega), HI.out.2.2, hexS_at q (by omega), ByteArray.mk_append_mk, ByteArray.mk_append_mk, hs], by omega, HW.out.trans ⟨rfl, rfl, rfl, Nat.le_refl _, fun _ _ => rfl⟩⟩, by simp [intOf]; omega⟩
    · obtain rfl : i = n := by omega
      have g0 : ¬ (i : Int) < (i : Int) := by omega
      have ht : l.take i = l := List.take_of_length_le (by omega)
      rw [ht]
      have HE := Lib.hid (And.intro trivial hW)
      clear hvr hW hv hl hn ht hlt
      go_wp2_with fail
      go_ret
      exact ⟨rfl, HE.out.2⟩
end Go.Proofs.YtcdmaapjcckbmaaDoor

/- code: the reference: a text cut at a byte (Split). -/
namespace Go.Proofs.YtcdmaapjcckbmaaDoor
open Go.RowKit Go.Shelf

theorem count_app (c : UInt8) (x r : List UInt8) (h : c ∉ x) : Lib.count (x ++ c :: r) [c] = Lib.count r [c] + 1 := by
  rw [Lib.count_one, Lib.count_one, List.count_append, List.count_cons_self, List.count_eq_zero.2 h, Nat.zero_add]
theorem index_at (c : UInt8) (r : List UInt8) : ∀ x : List UInt8, c ∉ x → Lib.index (x ++ c :: r) [c] = (x.length : Nat)
  | [], _ => by rw [List.nil_append, Lib.index]; simp [List.isPrefixOf]
  | b :: x, h => by
    have hb : c ≠ b := fun e => h (by simp [e])
    have ih := index_at c r x (fun m => h (by simp [m]))
    have hp : ([c] : List UInt8).isPrefixOf (b :: (x ++ c :: r)) = false := by simp [List.isPrefixOf, hb]
    rw [List.cons_append, Lib.index, hp, ih]
    simp
theorem split_step (c : UInt8) (x r : List UInt8) (h : c ∉ x) : Lib.split (x ++ c :: r) [c] = x :: Lib.split r [c] := by
  unfold Lib.split
  rw [count_app c x r h, Lib.splitK, index_at c r x h, if_neg (by simp)]
  simp only [Int.toNat_natCast, Nat.add_zero, List.length_singleton]
  rw [List.take_left' rfl, List.drop_append, List.drop_of_length_le (by omega), show x.length + 1 - x.length = 1 by omega]
  rfl
theorem split_none (c : UInt8) (x : List UInt8) (h : c ∉ x) : Lib.split x [c] = [x] := by
  unfold Lib.split
  rw [Lib.count_one, List.count_eq_zero.2 h]
  rfl
/-- A slice of texts in a row of the call's own. -/
def strV (x : List UInt8) : Value := .string ⟨x.toArray⟩
def OwS (X : World) (base : Nat) (v : Value) (l : List (List UInt8)) : Prop := X.ownsRow base 9 1 v l.length (l.map strV)
theorem OwS.keep {X Y : World} {base : Nat} {v : Value} {l : List (List UInt8)} (h : OwS X base v l) (k : Below X.heap.size X Y) : OwS Y base v l := World.ownsRow.kept h (grown_new k) (by cases v.ownBlock <;> simp)
/-- Its texts as they lie. -/
theorem OwS.at {X : World} {base : Nat} {v : Value} {l : List (List UInt8)} (h : OwS X base v l) : ∃ x cap, v = .slice x l.length cap ∧ l.length ≤ 9223372036854775807 ∧ (l ≠ [] → ∃ g, x = some ⟨g, 0, none⟩ ∧ base ≤ g ∧ g < X.heap.size ∧ ∀ k y, l[k]? = some y → X.cell? ⟨g, k, none⟩ = some (strV y)) := by
  rcases h.2 with ⟨rfl, hn⟩ | ⟨g, cap, cur, rfl, hb, hg, hnc, hcm, hcs, htk⟩
  · exact ⟨none, 0, by rw [hn], by rw [hn]; decide, fun hne => (hne (List.length_eq_zero_iff.1 hn)).elim⟩
  · refine ⟨_, cap, rfl, by unfold maxLen at hcm; omega, fun _ => ⟨g, rfl, hb, (Array.getElem?_eq_some_iff.1 hg).1, fun k y hk => ?_⟩⟩
    have hl := (List.getElem?_eq_some_iff.1 hk).1
    rw [cell_of_row X g k _ _ _ hg, ← Array.getElem?_toList]
    have e : (l.map strV)[k]? = some (strV y) := by rw [List.getElem?_map, hk]; rfl
    rw [← htk, List.getElem?_take_of_lt (by omega)] at e
    exact e
theorem infoStr : (Tryd.prog.info? 9).map (fun i => (i.zero, i.size, i.bytes)) = some (some (.string ⟨#[]⟩), 1, 16) := by kernel_rfl
theorem cat_ba (x y : List UInt8) : (⟨x.toArray⟩ : ByteArray) ++ ⟨y.toArray⟩ = ⟨(x ++ y).toArray⟩ := by
  apply ByteArray.ext
  simp
theorem siz_ba (l : List UInt8) : (ByteArray.mk l.toArray).size = l.length := by simp [ByteArray.size]
/-- The parts, the one begun given. -/
def spR (c : UInt8) : List UInt8 → List UInt8 → List (List UInt8)
  | cur, [] => [cur]
  | cur, b :: l => if b = c then cur :: spR c [] l else spR c (cur ++ [b]) l
theorem spR_split (c : UInt8) : ∀ (l cur : List UInt8), c ∉ cur → spR c cur l = Lib.split (cur ++ l) [c]
  | [], cur, h => by rw [List.append_nil, split_none c cur h]; rfl
  | b :: l, cur, h => by
    rw [spR]
    split
    · rename_i e
      subst e
      rw [split_step b cur l h, spR_split b l [] (by simp)]
      rfl
    · rename_i e
      rw [spR_split c l (cur ++ [b]) (by simp [h, Ne.symm e]), List.append_assoc]
      rfl
theorem part_at (s : ByteArray) (k : Nat) (hk : k < s.size) : s.extract k (k + 1) = ⟨#[s[k]]⟩ := by
  apply ByteArray.ext
  apply Array.ext
  · simp [ByteArray.data_extract]; show min (k + 1) s.size - k = 1; omega
  · intro i h1 h2
    have : i = 0 := by simpa using h2
    subst this
    simp [ByteArray.data_extract]
    rfl
theorem drop_at (s : ByteArray) (k : Nat) (hk : k < s.size) : s.data.toList.drop k = s[k] :: s.data.toList.drop (k + 1) := by
  rw [List.drop_eq_getElem_cons (by simpa using hk)]
  rfl
theorem infoS_parts : ∃ i0, Tryd.prog.info? 9 = some i0 ∧ i0.zero = some (.string ⟨#[]⟩) ∧ i0.size = 1 ∧ i0.bytes = 16 := info_parts' infoStr
set_option maxRecDepth 100000 in
set_option maxHeartbeats 4000000 in
set_option maxRecDepth 100000 in
set_option maxHeartbeats 4000000 in
theorem rsplit9_any (s : ByteArray) (c : UInt8) (hs : s.size ≤ 70000) (w : World) :
    Calls Tryd.prog 52 #[.string s, .int .u8 (c.toNat : Nat)] w fun e w' => ∃ v, e = .returned v ∧ OwS w' w.heap.size v (Lib.split s.data.toList [c]) ∧ Below w.heap.size w w' := by
  obtain ⟨i0, hi, hz0, hz1, hz2⟩ := infoS_parts
  have hu : Tryd.prog.underlying 67 = some (.slice 9) := by kernel_rfl
  have hR := spR_split c s.data.toList [] (by simp)
  rw [List.nil_append] at hR
  rw [← hR]
  clear hR
  obtain ⟨R, hRR⟩ : ∃ R, spR c [] s.data.toList = R := ⟨_, rfl⟩
  rw [hRR]
  have HR := Lib.hid hRR
  clear hRR
  go_enter Tryd.func52, Tryd.ntmps52
  go_wp2_with fail
  go_loopw [5, 6, 7] (fun v p i wr => (∃ (k : Nat) (dn : List (List UInt8)) (cur : List UInt8), k ≤ s.size ∧ i = .int .i64 (k : Nat) ∧ p = .string ⟨cur.toArray⟩ ∧ OwS wr w.heap.size v dn ∧ Below w.heap.size w wr ∧ dn ++ spR c cur (s.data.toList.drop k) = R ∧ cur.length ≤ k ∧ dn.length ≤ k) ∨ (i = .int .i64 ((s.size : Int) + 1) ∧ OwS wr w.heap.size v R ∧ Below w.heap.size w wr)) (fun _ _ i _ => s.size + 1 - (intOf i).toNat)
  case atStart => exact .inl ⟨0, [], [], by omega, rfl, rfl, ⟨rfl, .inl ⟨rfl, rfl⟩⟩, Below.refl _ _, HR.out, by simp, by simp⟩
  case round =>
    rcases hrel with ⟨k, dn, cur, hk, rfl, rfl, hown, hB, hR, hc1, hd1⟩ | ⟨rfl, hown, hB⟩
    · have hkI : (k : Int) ≤ (s.size : Int) := by omega
      have g5 : IntKind.i64.wrap ((k : Int) + 1) = ((k + 1 : Nat) : Int) := by rw [show ((k : Int) + 1) = ((k + 1 : Nat) : Int) by omega]; exact IntWalk.i64_in _ (by omega)
      by_cases hlt : k < s.size
      · have hltI : (k : Int) < (s.size : Int) := by omega
        obtain ⟨b, hb⟩ : ∃ b, s[k] = b := ⟨_, rfl⟩
        have hpt := part_at s k hlt
        rw [drop_at s k hlt, hb, spR] at hR
        rw [hb] at hpt
        have hw0 : (0 : Int) ≤ (k : Int) := by omega
        have hw1 : (k : Int) ≤ ((k + 1 : Nat) : Int) := by omega
        have hw2 : ((k + 1 : Nat) : Int) ≤ (s.size : Int) := by omega
        have HH := Lib.hid (And.intro hR (And.intro hc1 (And.intro hd1 (And.intro hown hB))))
        clear hR hc1 hd1 hown hB
        by_cases hbc : b = c
        · subst hbc
          have q0 : ((b.toNat : Int) != (b.toNat : Int)) = false := by simp
          have hown : World.ownsRow wr w.heap.size 9 1 u5 dn.length (dn.map strV) := HH.out.2.2.2.1
          have hHR := HH.out.1
          rw [if_pos rfl] at hHR
          have HK := Lib.hid hHR
          clear hHR
          go_wp2_with (first
            | (at_builtin; refine wpList_append_own _ rfl _ _ 67 rfl w.heap.size 9 i0 (.string ⟨#[]⟩) 1 16 hu hi hz0 hz1 hz2 rfl (by decide) _ _ _ rfl (hown.alloc _) ⟨wr.heap.size, 0, none⟩ 1 1 [.string ⟨cur.toArray⟩] rfl rfl ?c1 ?c2 ?c3 ?c4 ?c5 ?_)
            | fail)
          case c2 => rfl
          case c3 => unfold maxLen; have := HH.out.2.2.1; omega
          case c4 => have := HH.out.2.2.1; omega
          case c5 => have := HH.out.2.2.2.2.size; simp; omega
          intro v' w2 hown2 hgrow _
          have hW1 := world_kept (hown.alloc _) hgrow (balloc HH.out.2.2.2.2 _) (Nat.le_refl _) (Nat.le_refl _)
          have HO := Lib.hid (show OwS w2 w.heap.size v' (dn ++ [cur]) by unfold OwS; rw [List.length_append, List.map_append]; exact hown2)
          have HY := Lib.hid hW1
          clear hown hown2 hgrow hW1 hi hz0 hz1 hz2 hu
          go_wp2_with fail
          go_roundw
          case rel => exact .inl ⟨k + 1, dn ++ [cur], [], by omega, rfl, rfl, HO.out, HY.out, by rw [List.append_assoc]; exact HK.out, by simp, by have := HH.out.2.2.1; simp; omega⟩
          case measure => simp [intOf]; omega
        · have q0 : ((b.toNat : Int) != (c.toNat : Int)) = true := by
            rw [bne_iff_ne]
            intro e
            exact hbc (UInt8.toNat_inj.1 (by omega))
          have z1 : ¬ 9223372036854775807 < (⟨cur.toArray⟩ : ByteArray).size + 1 := by have := HH.out.2.1; rw [siz_ba]; omega
          go_wp2_with fail
          go_round
          case rel => exact .inl ⟨k + 1, dn, cur ++ [b], by omega, rfl, congrArg Value.string (cat_ba cur [b]), HH.out.2.2.2.1, HH.out.2.2.2.2, by have := HH.out.1; rw [if_neg hbc] at this; exact this, by have := HH.out.2.1; simp; omega, by have := HH.out.2.2.1; omega⟩
          case measure => simp [intOf]; omega
      · have hltI : ¬ (k : Int) < (s.size : Int) := by omega
        have hke : k = s.size := by omega
        have HE := Lib.hid hke
        rw [List.drop_of_length_le (by simp; omega), spR] at hR
        clear hke
        have HH := Lib.hid (And.intro hR (And.intro hc1 (And.intro hd1 (And.intro hown hB))))
        clear hR hc1 hd1 hown hB
        have hown : World.ownsRow wr w.heap.size 9 1 u5 dn.length (dn.map strV) := HH.out.2.2.2.1
        go_wp2_with (first
          | (at_builtin; refine wpList_append_own _ rfl _ _ 67 rfl w.heap.size 9 i0 (.string ⟨#[]⟩) 1 16 hu hi hz0 hz1 hz2 rfl (by decide) _ _ _ rfl (hown.alloc _) ⟨wr.heap.size, 0, none⟩ 1 1 [.string ⟨cur.toArray⟩] rfl rfl ?c1 ?c2 ?c3 ?c4 ?c5 ?_)
          | fail)
        case c2 => rfl
        case c3 => unfold maxLen; have := HH.out.2.2.1; omega
        case c4 => have := HH.out.2.2.1; omega
        case c5 => have := HH.out.2.2.2.2.size; simp; omega
        intro v' w2 hown2 hgrow _
        have hW1 := world_kept (hown.alloc _) hgrow (balloc HH.out.2.2.2.2 _) (Nat.le_refl _) (Nat.le_refl _)
        have HO := Lib.hid (show OwS w2 w.heap.size v' (dn ++ [cur]) by unfold OwS; rw [List.length_append, List.map_append]; exact hown2)
        have HY := Lib.hid hW1
        clear hown hown2 hgrow hW1 hi hz0 hz1 hz2 hu
        go_wp2_with fail
        go_roundw
        case rel => exact .inr ⟨by have := HE.out; exact congrArg (Value.int .i64) (by omega), by rw [← HH.out.1]; exact HO.out, HY.out⟩
        case measure => simp [intOf]; omega
    · have hkI : ¬ (s.size : Int) + 1 ≤ (s.size : Int) := by omega
      go_wp2_with fail
      exact bodyPost_ret (R := fun e w' => ∃ v, e = .returned v ∧ OwS w' w.heap.size v R ∧ Below w.heap.size w w') (by simp [results, Tryd.results52, go_sem]) rfl ⟨_, rfl, hown, hB⟩
end Go.Proofs.YtcdmaapjcckbmaaDoor

/- code: the reference: the bytes of a text (Unhex). -/
namespace Go.Proofs.YtcdmaapjcckbmaaDoor
open Go.RowKit Go.Shelf

theorem dv_dgV (b : UInt8) : dv b = dgV b.toNat := by
  unfold dv dgV; rfl
/-- The bytes that a text tells, or none. -/
def unV (s : ByteArray) : Option (List Nat) :=
  if Lib.hasPrefix s.data.toList [48, 120] = true ∧ (Lib.trimPrefix s.data.toList [48, 120]).length % 2 = 0 ∧ dgO (Lib.trimPrefix s.data.toList [48, 120]) (Lib.trimPrefix s.data.toList [48, 120]).length then some (byV (Lib.trimPrefix s.data.toList [48, 120]) ((Lib.trimPrefix s.data.toList [48, 120]).length / 2)) else none
theorem bxV_unV (s : ByteArray) (m : Nat) : bxV s m = (unV s).bind fun bs => if bs.length = m then some bs else none := by
  unfold bxV unV
  by_cases h1 : Lib.hasPrefix s.data.toList [48, 120] = true
  · generalize Lib.trimPrefix s.data.toList [48, 120] = D
    by_cases h2 : D.length = 2 * m
    · have h3 : D.length % 2 = 0 := by omega
      have h4 : D.length / 2 = m := by omega
      rw [← h2, h4]
      by_cases h5 : dgO D D.length
      · rw [if_pos ⟨h1, rfl, h5⟩, if_pos ⟨h1, h3, h5⟩]; simp [byV_len]
      · rw [if_neg (fun h => h5 h.2.2), if_neg (fun h => h5 h.2.2)]; rfl
    · rw [if_neg (fun h => h2 h.2.1)]
      split
      · rename_i h
        have : ¬ D.length / 2 = m := by omega
        simp [byV_len, this]
      · rfl
  · rw [if_neg (fun h => h1 h.1), if_neg (fun h => h1 h.1)]; rfl
/-- What Unhex comes to. -/
def UnP (s : ByteArray) (w : World) (e : Ending) (w' : World) : Prop :=
  (match unV s with
  | some bs => ∃ v, e = .returned (.tuple #[v, .bool true]) ∧ Ow w' w.heap.size v bs
  | none => e = .returned (.tuple #[.slice none 0 0, .bool false])) ∧ Below w.heap.size w w'
def UnI (D : List UInt8) (n0 : Nat) (w : World) (k : Nat) (t : Value) (wr : World) : Prop := dgO D (2 * k) ∧ Ow wr n0 t (byV D k) ∧ Below n0 w wr
theorem byV_snoc (D : List UInt8) (k : Nat) : byV D (k + 1) = byV D k ++ [16 * hgN D (2 * k) + hgN D (2 * k + 1)] := by unfold byV; rw [List.range_succ, List.map_append]; rfl
theorem ext2 (s : ByteArray) (h : 2 ≤ s.size) : ((s.extract 0 2).toList == [48, 120]) = Lib.hasPrefix s.data.toList [48, 120] := by
  have e : s.extract 0 2 = ⟨(s.data.toList.take 2).toArray⟩ := by
    apply ByteArray.ext
    apply Array.ext'
    simp [ByteArray.data_extract]
  have hl : 2 ≤ s.data.toList.length := by simpa using h
  rw [e]
  match s.data.toList, hl with
  | a :: b :: D, _ => simp [Lib.hasPrefix, List.isPrefixOf, Bool.beq_comm]
theorem pre_size (s : ByteArray) (h : Lib.hasPrefix s.data.toList [48, 120] = true) : s.size = (Lib.trimPrefix s.data.toList [48, 120]).length + 2 ∧ ∀ i, s.data.toList.getD (2 + i) 0 = (Lib.trimPrefix s.data.toList [48, 120]).getD i 0 := by
  have hp : [48, 120] <+: s.data.toList := by rw [← List.isPrefixOf_iff_prefix]; exact h
  obtain ⟨D, hD⟩ := hp
  have e : Lib.trimPrefix s.data.toList [48, 120] = D := by unfold Lib.trimPrefix; rw [if_pos h, ← hD]; rfl
  rw [e]
  refine ⟨?_, fun i => ?_⟩
  · have : s.size = s.data.toList.length := rfl
    rw [this, ← hD]; simp
  · rw [← hD, List.getD_eq_getElem?_getD, List.getD_eq_getElem?_getD, List.getElem?_append_right (by simp)]
    congr 2
    simp
set_option maxRecDepth 100000 in
set_option maxHeartbeats 2000000 in
theorem runhex_not (s : ByteArray) (h : Lib.hasPrefix s.data.toList [48, 120] = false) (w : World) : Calls Tryd.prog 53 #[.string s] w fun e w' => UnP s w e w' := by
  have hu : unV s = none := by unfold unV; rw [if_neg (by rw [h]; simp)]
  have HU := Lib.hid hu
  clear hu
  by_cases h2 : s.size < 2
  · have g0 : (s.size : Int) < 2 := by omega
    clear h h2
    go_enter Tryd.func53, Tryd.ntmps53
    go_wp2_with fail
    go_ret2
    unfold UnP
    rw [HU.out]
    exact ⟨rfl, Below.refl _ _⟩
  · have g0 : ¬ (s.size : Int) < 2 := by omega
    have g1 : (2 : Int) ≤ (s.size : Int) := by omega
    have g2 : ((s.extract 0 2).toList == [48, 120]) = false := by rw [ext2 s (by omega), h]
    clear h h2
    go_enter Tryd.func53, Tryd.ntmps53
    go_wp2_with fail
    go_ret2
    unfold UnP
    rw [HU.out]
    exact ⟨rfl, Below.refl _ _⟩
set_option maxRecDepth 100000 in
set_option maxHeartbeats 2000000 in
theorem runhex_odd (s : ByteArray) (h : Lib.hasPrefix s.data.toList [48, 120] = true) (ho : (Lib.trimPrefix s.data.toList [48, 120]).length % 2 = 1) (hs : s.size ≤ 1000000) (w : World) : Calls Tryd.prog 53 #[.string s] w fun e w' => UnP s w e w' := by
  have hu : unV s = none := by unfold unV; rw [if_neg (fun h => by omega)]
  have HU := Lib.hid hu
  have hz := (pre_size s h).1
  have g0 : ¬ (s.size : Int) < 2 := by omega
  have g1 : (2 : Int) ≤ (s.size : Int) := by omega
  have g2 : ((s.extract 0 2).toList == [48, 120]) = true := by rw [ext2 s (by omega), h]
  have g3 : ((s.size : Int) % 2 == 1) = true := by rw [beq_iff_eq]; omega
  have g4 : IntKind.i64.wrap ((s.size : Int) % 2) = (s.size : Int) % 2 := IntWalk.i64_in _ (by omega)
  clear h ho hu hz hs
  go_enter Tryd.func53, Tryd.ntmps53
  go_wp2_with fail
  go_ret2
  unfold UnP
  rw [HU.out]
  exact ⟨rfl, Below.refl _ _⟩
set_option maxRecDepth 100000 in
set_option maxHeartbeats 4000000 in
theorem runhex_even (s : ByteArray) (h : Lib.hasPrefix s.data.toList [48, 120] = true) (he : (Lib.trimPrefix s.data.toList [48, 120]).length % 2 = 0) (hs : s.size ≤ 1000000) (w : World) : Calls Tryd.prog 53 #[.string s] w fun e w' => UnP s w e w' := by
  obtain ⟨hz, hix⟩ := pre_size s h
  have g0 : ¬ (s.size : Int) < 2 := by omega
  have g1 : (2 : Int) ≤ (s.size : Int) := by omega
  have g2 : ((s.extract 0 2).toList == [48, 120]) = true := by rw [ext2 s (by omega), h]
  have g3 : ((s.size : Int) % 2 == 1) = false := by rw [beq_eq_false_iff_ne]; omega
  have g4 : IntKind.i64.wrap ((s.size : Int) % 2) = (s.size : Int) % 2 := IntWalk.i64_in _ (by omega)
  obtain ⟨N, hN⟩ : ∃ N, (Lib.trimPrefix s.data.toList [48, 120]).length = 2 * N := ⟨(Lib.trimPrefix s.data.toList [48, 120]).length / 2, by omega⟩
  have hu : unV s = if dgO (Lib.trimPrefix s.data.toList [48, 120]) (2 * N) then some (byV (Lib.trimPrefix s.data.toList [48, 120]) N) else none := by
    unfold unV
    rw [hN, show 2 * N / 2 = N by omega]
    by_cases hd : dgO (Lib.trimPrefix s.data.toList [48, 120]) (2 * N)
    · rw [if_pos ⟨h, by omega, hd⟩, if_pos hd]
    · rw [if_neg (fun h => hd h.2.2), if_neg hd]
  generalize Lib.trimPrefix s.data.toList [48, 120] = D at *
  have hsN : s.size = 2 * N + 2 := by omega
  have HU := Lib.hid (And.intro hu (And.intro hix (And.intro hsN hs)))
  clear h he hu hz hix hN hsN
  obtain ⟨i0, hi, hz0, hz1, hz2⟩ := info_parts' infoU8
  have HI := Lib.hid (And.intro hi (And.intro hz0 (And.intro hz1 hz2)))
  clear hi hz0 hz1 hz2
  go_enter Tryd.func53, Tryd.ntmps53
  go_wp2_with fail
  go_loopw [4, 5] (fun v t wr => ∃ (k : Nat), t = .int .i64 ((2 * k + 2 : Nat) : Int) ∧ k ≤ N ∧ UnI D w.heap.size w k v wr) (fun _ t _ => s.size + 2 - (intOf t).toNat)
  case atStart => exact ⟨0, rfl, Nat.zero_le _, (fun i hi => absurd hi (Nat.not_lt_zero i) : dgO D (2 * 0)), ⟨by simp [byV], World.ownsRow_nil _ _ _ _⟩, Below.refl _ _⟩
  case round =>
    obtain ⟨k, rfl, hk, hdg, how, hbl⟩ := hrel
    obtain ⟨hu, hix, hsN, _⟩ := HU.out
    by_cases hlt : k < N
    · have q0 : ((2 * k + 2 : Nat) : Int) < (s.size : Int) := by omega
      have q1 : IntKind.i64.wrap (((2 * k + 2 : Nat) : Int) + 1) = ((2 * k + 3 : Nat) : Int) := by rw [IntWalk.i64_in _ (by omega)]; omega
      have q2 : IntKind.i64.wrap (((2 * k + 2 : Nat) : Int) + 2) = ((2 * (k + 1) + 2 : Nat) : Int) := by rw [IntWalk.i64_in _ (by omega)]; omega
      have x1 := str_ix s (2 * k + 2) ((2 * k + 2 : Nat) : Int) rfl (by omega)
      have x2 := str_ix s (2 * k + 3) ((2 * k + 3 : Nat) : Int) rfl (by omega)
      rw [show 2 * k + 2 = 2 + 2 * k by omega, hix] at x1
      rw [show 2 * k + 3 = 2 + (2 * k + 1) by omega, hix] at x2
      obtain ⟨A, hA⟩ : ∃ A, 2 * k + 2 = A := ⟨_, rfl⟩
      obtain ⟨C, hC⟩ : ∃ C, 2 * k + 3 = C := ⟨_, rfl⟩
      obtain ⟨E, hE⟩ : ∃ E, 2 * (k + 1) + 2 = E := ⟨_, rfl⟩
      rw [show 2 + 2 * k = A by omega] at x1
      rw [show 2 + (2 * k + 1) = C by omega] at x2
      have q3 : (C : Int) < (s.size : Int) := by omega
      rw [hA] at q0 q1 q2 ⊢
      rw [hC] at q1
      rw [hE] at q2
      obtain ⟨rV, hrV⟩ : ∃ rV : UInt8 → Int, ∀ c, rV c = if dv c < 16 then (dv c : Int) else -1 := ⟨_, fun _ => rfl⟩
      have HD := Lib.hid (fun c w => (rdigit_any c w).mono fun e w' h => (⟨by rw [h.1, hrV], h.2.symm⟩ : e = .returned (.int .i64 (rV c)) ∧ w' = w))
      have d1 := hrV (D.getD (2 * k) 0)
      have d2 := hrV (D.getD (2 * k + 1) 0)
      have e1 : hgN D (2 * k) = dv (D.getD (2 * k) 0) := by unfold hgN; rw [dv_dgV]
      have e2 : hgN D (2 * k + 1) = dv (D.getD (2 * k + 1) 0) := by unfold hgN; rw [dv_dgV]
      rw [← e1] at d1
      rw [← e2] at d2
      have hbn := byV_snoc D k
      have hnd : ¬ (hgN D (2 * k) < 16 ∧ hgN D (2 * k + 1) < 16) → unV s = none := fun hn => by
        rw [hu, if_neg]
        exact fun hd => hn ⟨hd _ (by omega), hd _ (by omega)⟩
      have hst : hgN D (2 * k) < 16 → hgN D (2 * k + 1) < 16 → dgO D (2 * (k + 1)) := fun h1 h2 => dgO_next hdg rfl rfl h1 h2
      have hbl2 := byV_len D k
      generalize D.getD (2 * k) 0 = c1 at *
      generalize D.getD (2 * k + 1) 0 = c2 at *
      generalize hgN D (2 * k) = p at *
      generalize hgN D (2 * k + 1) = q at *
      have HH := Lib.hid (And.intro how (And.intro hbl (And.intro hst (And.intro hbn (And.intro hA (And.intro hE hbl2))))))
      clear hst hbn hA hC hE how hbl hdg hix hu hsN e1 e2 hbl2 hrV
      by_cases b1 : p < 16
      · rw [if_pos b1] at d1
        have n1 : ¬ (p : Int) < 0 := by omega
        have n1' : (0 : Int) ≤ (p : Int) := by omega
        by_cases b2 : q < 16
        · rw [if_pos b2] at d2
          have n2 : ¬ (q : Int) < 0 := by omega
          have n2' : (0 : Int) ≤ (q : Int) := by omega
          have r1 : IntKind.i64.wrap (16 * (p : Int)) = 16 * (p : Int) := IntWalk.i64_in _ (by omega)
          have r2 : IntKind.i64.wrap (16 * (p : Int) + (q : Int)) = ((16 * p + q : Nat) : Int) := by rw [IntWalk.i64_in _ (by omega)]; omega
          have r3 : IntKind.u8.wrap ((16 * p + q : Nat) : Int) = ((16 * p + q : Nat) : Int) := IntWalk.u8_in _ (by omega)
          have HP := Lib.hid (And.intro b1 (And.intro b2 (And.intro hnd (show 16 * p + q < 256 by omega))))
          generalize 16 * p + q = y at *
          clear b1 b2 hnd
          go_wp2_with fail
          go_quiet ((go_at_call 73; exact Calls.quiet_of_same (HD.out _ _)))
          obtain ⟨hi, hz0, hz1, hz2⟩ := HI.out
          have hu : Tryd.prog.underlying 32 = some (.slice 5) := by kernel_rfl
          have hown : World.ownsRow (wr.drewN nq) w.heap.size 5 1 u4 (byV D k).length (bvs (byV D k)) := HH.out.1.2
          have HBq := Lib.hid (show Below w.heap.size w (wr.drewN nq) from HH.out.2.1.trans ⟨rfl, rfl, rfl, Nat.le_refl _, fun _ _ => rfl⟩)
          generalize wr.drewN nq = Wq at *
          obtain ⟨m, hm⟩ : ∃ m, (byV D k).length = m := ⟨_, rfl⟩
          have hkm : m = k := by have := HH.out.2.2.2.2.2.2; omega
          rw [hm] at hown
          have HM := Lib.hid (And.intro hm hkm)
          clear hm hkm
          go_wp2_with (first
            | (at_builtin; refine wpList_append_own _ rfl _ _ 32 rfl w.heap.size 5 i0 (.int .u8 0) 1 1 hu hi hz0 hz1 hz2 rfl (by decide) _ _ _ rfl (hown.alloc _) ⟨Wq.heap.size, 0, none⟩ 1 1 [.int .u8 (y : Nat)] rfl rfl (cell_one_new _ _ _) (fun u hu => (by simp at hu; subst hu; rfl)) ?c3 ?c4 ?c5 ?_)
            | fail)
          case c3 => unfold maxLen; have := HM.out.2; have := HU.out.2.2; omega
          case c4 => have := HM.out.2; have := HU.out.2.2; omega
          case c5 => have := HBq.out.size; simp; omega
          intro v' w2 hown2 hgrow _
          have hW1 := world_kept (hown.alloc _) hgrow (balloc HBq.out _) (Nat.le_refl _) (Nat.le_refl _)
          have HO := Lib.hid (show UnI D w.heap.size w (k + 1) v' w2 from ⟨HH.out.2.2.1 HP.out.1 HP.out.2.1, ⟨fun z hz => by
            rw [HH.out.2.2.2.1] at hz
            rcases List.mem_append.1 hz with h | h
            · exact HH.out.1.1 z h
            · rw [List.mem_singleton.1 h]; exact HP.out.2.2.2, by
            rw [HH.out.2.2.2.1, List.length_append, HM.out.1, ← bvs_app]
            exact hown2⟩, hW1⟩)
          clear hown hown2 hgrow hW1 hi hz0 hz1 hz2 hu
          go_wp2_with fail
          go_roundw
          case rel => exact ⟨k + 1, by rw [HH.out.2.2.2.2.2.1], by omega, HO.out⟩
          case measure => have := HH.out.2.2.2.2; simp [intOf]; omega
        · rw [if_neg b2] at d2
          have n2 : (-1 : Int) < 0 := by omega
          have hn := hnd (fun h => b2 h.2)
          have HN := Lib.hid (And.intro hn (show Below w.heap.size w wr from HH.out.2.1))
          clear hnd hn b1 b2 q2 HH
          go_wp2_with fail
          go_quiet ((go_at_call 73; exact Calls.quiet_of_same (HD.out _ _)))
          go_wp2_with fail
          exact bodyPost_ret (R := fun e w' => UnP s w e w') (v := .tuple #[.slice none 0 0, .bool false]) (by simp [results, Tryd.results53, go_sem]) rfl (by unfold UnP; rw [HN.out.1]; exact ⟨rfl, HN.out.2.trans ⟨rfl, rfl, rfl, Nat.le_refl _, fun _ _ => rfl⟩⟩)
      · rw [if_neg b1] at d1
        have n1 : (-1 : Int) < 0 := by omega
        clear d2
        have hn := hnd (fun h => b1 h.1)
        have HN := Lib.hid (And.intro hn (show Below w.heap.size w wr from HH.out.2.1))
        clear hnd hn b1 q2 HH
        go_wp2_with fail
        go_quiet ((go_at_call 73; exact Calls.quiet_of_same (HD.out _ _)))
        go_wp2_with fail
        exact bodyPost_ret (R := fun e w' => UnP s w e w') (v := .tuple #[.slice none 0 0, .bool false]) (by simp [results, Tryd.results53, go_sem]) rfl (by unfold UnP; rw [HN.out.1]; exact ⟨rfl, HN.out.2.trans ⟨rfl, rfl, rfl, Nat.le_refl _, fun _ _ => rfl⟩⟩)
    · obtain rfl : k = N := by omega
      have q0 : ¬ ((2 * k + 2 : Nat) : Int) < (s.size : Int) := by omega
      have hu2 : unV s = some (byV D k) := by rw [hu, if_pos hdg]
      have HE := Lib.hid (And.intro hu2 (And.intro how hbl))
      obtain ⟨A, hA⟩ : ∃ A, 2 * k + 2 = A := ⟨_, rfl⟩
      rw [hA] at q0 ⊢
      clear hu hu2 how hbl hdg hix hsN hlt hA
      go_wp2_with fail
      go_ret2
      unfold UnP
      rw [HE.out.1]
      exact ⟨⟨_, rfl, HE.out.2.1⟩, HE.out.2.2⟩
theorem runhex_any (s : ByteArray) (hs : s.size ≤ 1000000) (w : World) : Calls Tryd.prog 53 #[.string s] w fun e w' => UnP s w e w' := by
  cases h : Lib.hasPrefix s.data.toList [48, 120] with
  | false => exact runhex_not s h w
  | true =>
    rcases Nat.mod_two_eq_zero_or_one (Lib.trimPrefix s.data.toList [48, 120]).length with h2 | h2
    · exact runhex_even s h h2 hs w
    · exact runhex_odd s h h2 hs w
end Go.Proofs.YtcdmaapjcckbmaaDoor

/- code: the reference: Ops. -/
namespace Go.Proofs.YtcdmaapjcckbmaaDoor
open Go.RowKit Go.Shelf

theorem oi_z : ∀ n : Fin 256, (oi n.val).z = szO n.val := by decide +kernel
def plK (l : List Nat) (k : Nat) : List Nat := (List.range k).map (pos l)
theorem plK_len (l : List Nat) (k : Nat) : (plK l k).length = k := by simp [plK]
theorem plK_next (l : List Nat) (k : Nat) : plK l (k + 1) = plK l k ++ [pos l k] := by
  unfold plK; rw [List.range_succ, List.map_append]; rfl
theorem grown_own {X Y : World} {o : Option Nat} {B : Nat} (h : X.grownBy Y o) (ho : ∀ k, o = some k → B ≤ k) (hB : B ≤ X.heap.size) : Below B X Y :=
  ⟨h.os, h.tape, h.output, h.size, fun k hk => h.block k (by omega) (fun e => by have := ho k e.symm; omega)⟩
theorem field_z (a0 a1 a2 a3 a4 : Value) (z : Int) (w : World) : (Instr.field 25 (.agg #[a0, a1, a2, a3, a4, .int .i64 z]) 5).run Tryd.prog w = .ok (.int .i64 z) w := by kernel_rfl
set_option maxRecDepth 100000 in
set_option maxHeartbeats 4000000 in
theorem rops_any (B : Nat) (v : Value) (l : List Nat) (hl : l.length ≤ 1000) (w : World) (hB : B ≤ w.heap.size) (hv : Bto B w v l) : Calls Tryd.prog 14 #[v] w fun e w' => ∃ y c, e = .returned (.slice y (plL l).length c) ∧ OwI w' w.heap.size (.slice y (plL l).length c) (plL l) ∧ Below w.heap.size w w' := by
  obtain ⟨x0, c0, rfl⟩ : ∃ x0 c0, v = .slice x0 l.length c0 := by obtain ⟨_, x, c, h, _⟩ := hv; exact ⟨x, c, h⟩
  have HV := Lib.hid hv
  have HL := Lib.hid (And.intro hl hB)
  clear hv hl hB
  go_enter Tryd.func14, Tryd.ntmps14
  go_wp2_with fail
  go_loopg [3, 4] (opsN l) (fun g t3 t4 wr => ∃ k y c, g + k = opsN l ∧ t3 = .slice y (plK l k).length c ∧ t4 = .int .i64 (pos l k : Nat) ∧ OwI wr w.heap.size (.slice y (plK l k).length c) (plK l k) ∧ Below w.heap.size w wr)
  case atStart => exact ⟨0, none, 0, rfl, rfl, rfl, World.ownsRow_nil _ _ _ _, Below.refl _ _⟩
  case round =>
    obtain ⟨k, y, c, hk, rfl, rfl, hO, hW⟩ := hrel
    have hV := HV.out.kept hW.size (fun b hb h2 => hW.block b h2)
    by_cases hlt : pos l k < l.length
    · have hkn := opsN_lt.2 hlt
      obtain ⟨_, x, c', hx, h3, h4, h5⟩ := hV
      obtain ⟨b, o, e, hbB, hbX, hc⟩ := h5 (by intro e; rw [e] at hlt; simp at hlt)
      injection hx with hx1 hx2 hx3
      subst hx1
      subst hx3
      subst e
      have hcb := hc _ _ (opB_at hlt)
      have hob : opB l k < 256 := HV.out.1 _ (List.mem_of_getElem? (opB_at hlt))
      have hz := oi_z ⟨opB l k, hob⟩
      simp only at hz
      have hps : pos l (k + 1) = pos l k + 1 + szO (opB l k) := rfl
      have hsz := szO_le (opB l k)
      have hpI : (pos l k : Int) < (l.length : Int) := by omega
      have hp0 : (0 : Int) ≤ (pos l k : Int) := by omega
      have g1 : IntKind.i64.wrap ((pos l k : Int) + 1) = ((pos l k + 1 : Nat) : Int) := by rw [IntWalk.i64_in _ (by have := HL.out; omega)]; omega
      have g2 : IntKind.i64.wrap ((pos l k : Int) + 1 + ((szO (opB l k) : Nat) : Int)) = ((pos l (k + 1) : Nat) : Int) := by rw [IntWalk.i64_in _ (by have := HL.out; omega), hps]; omega
      have hwr := hW.size
      have hkl : k ≤ 1000 := by have := (opsN_spec l).2.1; have := HL.out.1; omega
      obtain ⟨y2, c2, w2, hrun, hO2, hG2⟩ := app_int wr w.heap.size _ (plK l k) (pos l k) 33 hO hwr (by rw [plK_len]; omega)
      rw [← plK_next] at hrun hO2
      have hB2 : Below w.heap.size (wr.alloc (.cells #[.int .i64 (pos l k : Nat)] 3)) w2 := grown_own hG2 (fun q e => (World.ownsRow.lt hO q e).1) (by rw [World.size_alloc]; omega)
      have hW2 := (balloc hW (.cells #[.int .i64 (pos l k : Nat)] 3)).trans hB2
      have hc2 : w2.cell? ⟨b, o + pos l k, none⟩ = some (.int .u8 (opB l k : Nat)) := (cell_heap (p := ⟨b, o + pos l k, none⟩) (((balloc (Below.refl wr.heap.size wr) (.cells #[.int .i64 (pos l k : Nat)] 3)).block b hbX |> fun h => (hB2.block b (by have := HL.out.2; omega)).trans h))).trans hcb
      have HI := Lib.hid (fun w => rinfo_any (opB l k) hob w)
      unfold oiC at HI
      rw [hz] at HI
      have hfl := fun w => field_z (.string ⟨(oi (opB l k)).nm.toArray⟩) (.int .i64 (oi (opB l k)).i) (.int .i64 (oi (opB l k)).o) (.int .u64 (oi (opB l k)).g) (.bool (oi (opB l k)).q) (szO (opB l k) : Nat) w
      have HS := Lib.hid (And.intro hO2 (And.intro hW2 (And.intro hk hkn)))
      clear hO hW hcb hc h3 h4 h5 hx2 hbX hbB hob hz hps hsz hG2 hB2 hO2 hW2 hk hkn hkl hlt
      generalize (plK l k).length = m0 at *
      generalize hm1 : (plK l (k + 1)).length = m1 at *
      go_wp2_with (first
        | (at_builtin; refine wpList_plain rfl fun K hK => ?_; refine wp_app_run (.tmp 18) (.tmp 20) 33 rfl rfl rfl hrun ?_; refine hK _ _ ?_; clear hK K)
        | (go_at_call 11; refine (HI.out _).mono ?_; rintro e w3 ⟨rfl, h3⟩)
        | fail)
      have HE := Lib.hid (And.intro (World.ownsRow.kept HS.out.1 (grown_new h3) (by cases (Value.slice y2 m1 c2).ownBlock <;> simp)) (bstep HS.out.2.1 h3))
      clear h3 hfl hc2 g1 g2 hpI hp0 hwr
      have HK := Lib.hid HS.out.2.2
      clear HS
      go_roundg (gk - 1)
      case measure => have := HK.out; omega
      case rel => exact ⟨k + 1, y2, c2, by have := HK.out; omega, by rw [hm1], rfl, by rw [hm1]; exact HE.out.1, HE.out.2⟩
    · have hpI : ¬ (pos l k : Int) < (l.length : Int) := by omega
      obtain rfl : k = opsN l := by
        rcases Nat.lt_or_ge k (opsN l) with h | h
        · exact absurd (opsN_lt.1 h) hlt
        · omega
      have HE := Lib.hid (And.intro hO hW)
      clear hO hW hV hlt hk
      go_wp2_with fail
      go_ret
      exact ⟨y, c, rfl, HE.out⟩
end Go.Proofs.YtcdmaapjcckbmaaDoor

/- code: the reference: the code of a text (Parse). -/
namespace Go.Proofs.YtcdmaapjcckbmaaDoor
open Go.RowKit Go.Shelf

/-! The words read so far. -/
def PaI (ws : List ByteArray) (i : Nat) (acc : List Nat) : Prop := i ≤ ws.length ∧ (∃ f, rdW ws.length ws = (rdW f (ws.drop i)).map (acc ++ ·) ∧ (ws.drop i).length ≤ f) ∧ acc.length + wsM (ws.drop i) ≤ wsM ws
theorem PaI.start (ws : List ByteArray) : PaI ws 0 [] := ⟨Nat.zero_le _, ⟨ws.length, by simp, by simp⟩, by simp⟩
theorem PaI.step {ws : List ByteArray} {i j : Nat} {acc b : List Nat} {x : ByteArray} {r t : List ByteArray} (h : PaI ws i acc) (hd : ws.drop i = x :: r) (hp : prOp (x :: r) = some (b, t)) (ht : t = ws.drop j) (hj : j ≤ ws.length) : PaI ws j (acc ++ b) := by
  obtain ⟨_, ⟨f, h1, h2⟩, h3⟩ := h
  obtain ⟨p1, p2⟩ := prOp_len hp
  rw [hd] at h1 h2 h3
  obtain ⟨f, rfl⟩ : ∃ g, f = g + 1 := ⟨f - 1, by simp at h2; omega⟩
  rw [rdW_some hp, Option.map_map] at h1
  refine ⟨hj, ⟨f, ?_, ?_⟩, ?_⟩
  · rw [h1, ← ht]; congr 1; funext l; simp
  · rw [← ht]; simp at h2 p2; omega
  · rw [← ht, List.length_append]; omega
theorem PaI.fail {ws : List ByteArray} {i : Nat} {acc : List Nat} {x : ByteArray} {r : List ByteArray} (h : PaI ws i acc) (hd : ws.drop i = x :: r) (hp : prOp (x :: r) = none) : rdW ws.length ws = none := by
  obtain ⟨_, ⟨f, h1, h2⟩, h3⟩ := h
  rw [h1, hd, rdW_none hp]; rfl
theorem PaI.done {ws : List ByteArray} {acc : List Nat} (h : PaI ws ws.length acc) : rdW ws.length ws = some acc := by
  obtain ⟨_, ⟨f, h1, h2⟩, h3⟩ := h
  rw [h1, List.drop_length]
  cases f <;> simp [rdW]
theorem prOp_named {x : ByteArray} {r : List ByteArray} {o m : Nat} (hnb : nb x = true) (ho : nk x = o) (hm : szO o = m) : prOp (x :: r) = if m = 0 then some ([o], r) else match r with
      | [] => none
      | y :: r2 => match bxV y m with
        | none => none
        | some bs => some (o :: bs, r2) := by
  unfold prOp prN
  simp only [hnb, if_true, ho, hm]
  rfl
theorem prOp_none {x : ByteArray} {r : List ByteArray} (h : prN x = none) : prOp (x :: r) = none := by simp only [prOp, h]
theorem prOp_byte {x : ByteArray} {r : List ByteArray} {o : Nat} (h : prN x = some o) (hz : szO o = 0) : prOp (x :: r) = some ([o], r) := by simp only [prOp, h, hz, if_true]
theorem prN_byte_none {x : ByteArray} (h : nb x = false) (hb : bxV x 1 = none) : prN x = none := by unfold prN; simp [h, hb]
theorem prN_byte_named {x : ByteArray} {o : Nat} (h : nb x = false) (hb : bxV x 1 = some [o]) (he : nmO o ≠ ⟨#[]⟩) : prN x = none := by unfold prN; simp [h, hb, he]
theorem prN_byte {x : ByteArray} {o : Nat} (h : nb x = false) (hb : bxV x 1 = some [o]) (he : nmO o = ⟨#[]⟩) : prN x = some o := by unfold prN; simp [h, hb, he]
theorem szO_bare (n : Nat) (hn : n < 256) (h : nmO n = ⟨#[]⟩) : szO n = 0 := by
  have hd : ∀ k : Fin 256, (oi k.val).nm = [] → szO k.val = 0 := by decide +kernel
  refine hd ⟨n, hn⟩ ?_
  have := congrArg (fun b : ByteArray => b.data.toList) h
  simpa [nmO] using this
theorem wsM_mem {ws : List ByteArray} {y : ByteArray} (h : y ∈ ws) : y.size + 1 ≤ wsM ws := by
  induction ws with
  | nil => simp at h
  | cons x r ih =>
    rw [wsM_cons]
    rcases List.mem_cons.1 h with rfl | h
    · omega
    · have := ih h; omega
theorem unV_lt {y : ByteArray} {bs : List Nat} (h : unV y = some bs) : ∀ z ∈ bs, z < 256 := by
  have := bxV_unV y bs.length
  rw [h] at this
  simp at this
  exact (bxV_ok _ _ _ this).2
theorem unhex_some {y : ByteArray} {bs : List Nat} (hy : y.size ≤ 1000000) (h : unV y = some bs) (w : World) : Calls Tryd.prog 53 #[.string y] w fun e w' => ∃ v, e = .returned (.tuple #[v, .bool true]) ∧ Ow w' w.heap.size v bs ∧ Below w.heap.size w w' :=
  (runhex_any y hy w).mono fun e w' hp => by
    unfold UnP at hp
    rw [h] at hp
    obtain ⟨⟨v, h1, h2⟩, h3⟩ := hp
    exact ⟨v, h1, h2, h3⟩
theorem unhex_none {y : ByteArray} (hy : y.size ≤ 1000000) (h : unV y = none) (w : World) : Calls Tryd.prog 53 #[.string y] w fun e w' => e = .returned (.tuple #[.slice none 0 0, .bool false]) ∧ Below w.heap.size w w' :=
  (runhex_any y hy w).mono fun e w' hp => by
    unfold UnP at hp
    rw [h] at hp
    exact hp
theorem ow_at {X : World} {base k x : Nat} {v : Value} {l : List Nat} (h : Ow X base v l) (hk : l[k]? = some x) : ∃ g c, v = .slice (some ⟨g, 0, none⟩) l.length c ∧ base ≤ g ∧ g < X.heap.size ∧ X.cell? ⟨g, k, none⟩ = some (.int .u8 (x : Nat)) := by
  have hkl : k < l.length := (List.getElem?_eq_some_iff.1 hk).1
  obtain ⟨g, c, rfl⟩ := Go.Joins.ownsRow_form h.2 (by omega)
  have hlt := World.ownsRow.lt h.2 g rfl
  refine ⟨g, c, rfl, hlt.1, hlt.2, ?_⟩
  rw [World.ownsRow.cellAt h.2 k (by omega)]
  rw [bvs_get, hk]; rfl
theorem ow_cells {X : World} {base g c : Nat} {l : List Nat} (h : Ow X base (.slice (some ⟨g, 0, none⟩) l.length c) l) : ∀ j u, (bvs l)[j]? = some u → X.cell? ((⟨g, 0, none⟩ : Addr).add j) = some u := fun j u hj => by
  have hjl : j < l.length := by have := (List.getElem?_eq_some_iff.1 hj).1; rwa [bvs_len] at this
  rw [Go.WideShapes.add_plain, Nat.zero_add, World.ownsRow.cellAt h.2 j (by omega), hj]
theorem field_nm (nm : ByteArray) (a0 a1 a2 a3 a4 : Value) (w : World) : (Instr.field 25 (.agg #[.string nm, a0, a1, a2, a3, a4]) 0).run Tryd.prog w = .ok (.string nm) w := by kernel_rfl
/-- What Parse comes to. -/
def RpP (s : ByteArray) (w : World) (e : Ending) (w' : World) : Prop := (∃ v, e = .returned (.tuple #[v, .int .i64 ((paT s).2 : Nat)]) ∧ Ow w' w.heap.size v (paT s).1) ∧ Below w.heap.size w w'
set_option maxRecDepth 100000 in
set_option maxHeartbeats 8000000 in
theorem rparse_loop (s : ByteArray) (h1 : s.size ≤ 65536) (h2 : s.size ≠ 0) (w : World) : Calls Tryd.prog 25 #[.string s] w fun e w' => RpP s w e w' := by
  have hi0 : ¬ (65536 : Int) < (s.size : Int) := by omega
  have he : s.toList.isEmpty = false := by
    rcases s with ⟨⟨_ | ⟨a, l⟩⟩⟩
    · exact absurd rfl h2
    · simp
  have he2 : (s.toList == []) = false := by
    rcases s with ⟨⟨_ | ⟨a, l⟩⟩⟩
    · exact absurd rfl h2
    · simp
  obtain ⟨i0, hi, hz0, hz1, hz2⟩ := info_parts' infoU8
  have HI0 := Lib.hid (And.intro hi (And.intro hz0 (And.intro hz1 hz2)))
  have hsp := rsplit9_any s 32 (by omega) w
  rw [← pcs_data] at hsp
  have HSP := Lib.hid hsp
  have hM := wsM_pcs 32 s.size s (Nat.le_refl _)
  have hT : rdT s = rdW (pcs 32 s).length (pcs 32 s) := rfl
  have hFA : rdW (pcs 32 s).length (pcs 32 s) = none → paT s = ([], 200) := fun h => by
    unfold paT; rw [if_neg (by omega), if_neg h2, hT, h]
  have hOK : ∀ l, rdW (pcs 32 s).length (pcs 32 s) = some l → paT s = (l, 0) := fun l h => by
    unfold paT; rw [if_neg (by omega), if_neg h2, hT, h]
  generalize pcs 32 s = ws at *
  have HFA := Lib.hid hFA
  have HOK := Lib.hid hOK
  have HWM := Lib.hid (show wsM ws ≤ 65537 by omega)
  have HSZ := Lib.hid (show ∀ y ∈ ws, y.size ≤ 1000000 from fun y hy => by have := wsM_mem hy; omega)
  have hwl : ws.length ≤ wsM ws := by
    clear hsp HSP hT hFA hOK HFA HOK HSZ HWM hM
    induction ws with
    | nil => simp [wsM]
    | cons x r ih => rw [wsM_cons, List.length_cons]; omega
  have hwn : ws.length ≤ 65537 := by omega
  obtain ⟨n, hn⟩ : ∃ n, ws.length = n := ⟨_, rfl⟩
  have HN := Lib.hid hn
  clear hi hz0 hz1 hz2 hsp hM hT hFA hOK hwl h1 h2
  go_enter Tryd.func25, Tryd.ntmps25
  go_wp2_with (first
    | (go_at_call 52; refine (HSP.out).mono ?_; rintro e w1 ⟨vS, rfl, hS, hw1⟩; have HS := Lib.hid hS; have HW1 := Lib.hid hw1; clear hS hw1)
    | fail)
  obtain ⟨xS, cS, rfl, _, hSc⟩ := HS.out.at
  rw [List.length_map, hn]
  rw [List.length_map, hn] at HS
  have HSC := Lib.hid hSc
  rw [hn] at hwn
  clear hSc hn HSP
  go_loopw [5, 6] (fun v t wr => ∃ (i : Nat) (acc : List Nat), t = .int .i64 i ∧ PaI ws i acc ∧ Ow wr w1.heap.size v acc ∧ Below w1.heap.size w1 wr) (fun _ t _ => n - (intOf t).toNat)
  case atStart => exact ⟨0, [], rfl, PaI.start ws, Ow.nil _ _, Below.refl _ _⟩
  case round =>
    obtain ⟨i, acc, rfl, hpa, how, hbl⟩ := hrel
    have HB := Lib.hid hbl
    have HOW := Lib.hid how
    by_cases hlt : i < n
    · obtain ⟨v, hv⟩ : ∃ v, u5 = v := ⟨_, rfl⟩
      rw [hv] at how HOW ⊢
      obtain ⟨x, hx⟩ : ∃ x, ws[i]? = some x := ⟨_, List.getElem?_eq_getElem (by rw [HN.out]; exact hlt)⟩
      have hd : ws.drop i = x :: ws.drop (i + 1) := by
        obtain ⟨hl, e⟩ := List.getElem?_eq_some_iff.1 hx
        rw [List.drop_eq_getElem_cons hl, e]
      obtain ⟨gS, rfl, _, hgS, hcS⟩ := HSC.out (by intro e; have := congrArg List.length e; rw [List.length_map, HN.out] at this; simp at this; omega)
      have cX : wr.cell? ⟨gS, i, none⟩ = some (.string x) := (cell_heap (p := ⟨gS, i, none⟩) (hbl.block gS hgS)).trans (by
        have := hcS i x.data.toList (by rw [List.getElem?_map, hx]; rfl)
        exact this)
      have HGS := Lib.hid hgS
      have HCS := Lib.hid hcS
      have HXM := Lib.hid (List.mem_of_getElem? hx)
      have g0 : (i : Int) < (n : Int) := by omega
      have g1 : (0 : Int) ≤ (i : Int) := by omega
      have g2 : IntKind.i64.wrap ((i : Int) + 1) = ((i + 1 : Nat) : Int) := by rw [IntWalk.i64_in _ (by omega)]; omega
      have g3 : IntKind.i64.wrap (((i + 1 : Nat) : Int) + 1) = ((i + 1 + 1 : Nat) : Int) := by rw [IntWalk.i64_in _ (by omega)]; omega
      have HM := Lib.hid (fun w => rnamed_any x w)
      have ho := nk_lt x
      have hacc : acc.length ≤ 65537 := by have := hpa.2.2; have := HWM.out; omega
      obtain ⟨r, hr⟩ : ∃ r, ws.drop (i + 1) = r := ⟨_, rfl⟩
      rw [hr] at hd
      have HPA := Lib.hid (And.intro hpa (And.intro hd (And.intro hr.symm (show i < ws.length by rw [HN.out]; exact hlt))))
      have HLT := Lib.hid hlt
      have hown := how.2
      obtain ⟨N, hN⟩ : ∃ N, acc.length = N := ⟨_, rfl⟩
      rw [hN] at hown hacc
      have HNA := Lib.hid hN
      have HLEN := Lib.hid hacc
      clear hpa how hbl hx hd hgS hcS hacc hv hlt hN
      cases hnb : nb x with
      | true =>
        obtain ⟨o, hno⟩ : ∃ o, nk x = o := ⟨_, rfl⟩
        rw [hno] at HM ho
        have HO := Lib.hid hno
        have hzo := oi_z ⟨o, ho⟩
        simp only at hzo
        obtain ⟨m, hmo⟩ : ∃ m, szO o = m := ⟨_, rfl⟩
        clear hno
        by_cases hm0 : m = 0
        · clear hr
          rw [hnb] at HM
          have HI := Lib.hid (fun w => rinfo_any o ho w)
          unfold oiC at HI
          rw [hzo, hmo] at HI
          generalize (oi o).nm = Nm at HI
          generalize (oi o).i = xi at HI
          generalize (oi o).o = xo at HI
          generalize (oi o).g = xg at HI
          generalize (oi o).q = xq at HI
          have hfl := fun w => field_z (.string ⟨Nm.toArray⟩) (.int .i64 (xi : Nat)) (.int .i64 (xo : Nat)) (.int .u64 (xg : Nat)) (.bool xq) (m : Nat) w
          have HQ := Lib.hid (And.intro hnb (And.intro hmo hm0))
          clear hnb hmo hzo hm0
          obtain ⟨hi, hz0, hz1, hz2⟩ := HI0.out
          have hu : Tryd.prog.underlying 32 = some (.slice 5) := by kernel_rfl
          have hwr : World.ownsRow wr w1.heap.size 5 1 v N (bvs acc) := hown
          go_upto_region 12 with (first
            | (go_at_call 13; refine (HM.out _).mono ?_; rintro e z1 ⟨rfl, h1⟩; have H1 := Lib.hid h1; clear h1)
            | fail)
          have hown1 : World.ownsRow z1 w1.heap.size 5 1 v N (bvs acc) := World.ownsRow.kept hwr (grown_new H1.out) (by cases v.ownBlock <;> simp)
          clear hwr hown
          go_wp2_with (first
            | (at_builtin; refine wpList_append_own _ rfl _ _ 32 rfl w1.heap.size 5 i0 (.int .u8 0) 1 1 hu hi hz0 hz1 hz2 rfl (by decide) _ _ _ rfl (hown1.alloc _) ⟨z1.heap.size, 0, none⟩ 1 1 [.int .u8 (o : Nat)] rfl rfl (cell_one_new _ _ _) (fun u hu => (by simp at hu; subst hu; rfl)) ?c3 ?c4 ?c5 ?_)
            | fail)
          case c3 => unfold maxLen; have := HLEN.out; omega
          case c4 => have := HLEN.out; omega
          case c5 => have := HB.out.size; have := H1.out.size; simp; omega
          intro v2 z2 hown2 hgrow _
          have hB2 := world_kept (hown1.alloc _) hgrow (balloc (HB.out.trans (H1.out.mono HB.out.size)) _) (Nat.le_refl _) (Nat.le_refl _)
          have hO2 : Ow z2 w1.heap.size v2 (acc ++ [o]) := ⟨fun z hz => (by
            rcases List.mem_append.1 hz with h | h
            · exact HOW.out.1 z h
            · rw [List.mem_singleton.1 h]; exact ho), by
            rw [List.length_append, HNA.out, ← bvs_app]
            exact hown2⟩
          have H2 := Lib.hid (And.intro hO2 hB2)
          clear hown1 hown2 hgrow hB2 hO2 hi hz0 hz1 hz2 hu cX
          have q0 : ¬ (0 : Int) < (m : Int) := by have := HQ.out.2.2; omega
          go_wp2_with (first
            | (go_at_call 11; refine (HI.out _).mono ?_; rintro e z3 ⟨rfl, h3⟩; have H3 := Lib.hid h3; clear h3)
            | fail)
          go_roundw
          case rel => exact ⟨i + 1, acc ++ [o], by go_num, HPA.out.1.step HPA.out.2.1 (b := [o]) (t := r) (by rw [prOp_named HQ.out.1 HO.out HQ.out.2.1]; rw [if_pos HQ.out.2.2]) HPA.out.2.2.1 (by have := HPA.out.2.2.2; omega), H2.out.1.new H3.out, H2.out.2.trans (H3.out.mono H2.out.2.size)⟩
          case measure => simp [intOf]; have := HLT.out; omega
        · cases r with
          | nil =>
            have hrl : i + 1 = n := by
              have h := congrArg List.length hr
              rw [List.length_drop, HN.out] at h
              simp at h
              have := HLT.out
              omega
            have HR := Lib.hid (And.intro (show ([] : List ByteArray) = [] from rfl) hrl)
            clear hr hrl
            rw [hnb] at HM
            have HI := Lib.hid (fun w => rinfo_any o ho w)
            unfold oiC at HI
            rw [hzo, hmo] at HI
            generalize (oi o).nm = Nm at HI
            generalize (oi o).i = xi at HI
            generalize (oi o).o = xo at HI
            generalize (oi o).g = xg at HI
            generalize (oi o).q = xq at HI
            have hfl := fun w => field_z (.string ⟨Nm.toArray⟩) (.int .i64 (xi : Nat)) (.int .i64 (xo : Nat)) (.int .u64 (xg : Nat)) (.bool xq) (m : Nat) w
            have HQ := Lib.hid (And.intro hnb (And.intro hmo hm0))
            clear hnb hmo hzo hm0
            obtain ⟨hi, hz0, hz1, hz2⟩ := HI0.out
            have hu : Tryd.prog.underlying 32 = some (.slice 5) := by kernel_rfl
            have hwr : World.ownsRow wr w1.heap.size 5 1 v N (bvs acc) := hown
            go_upto_region 12 with (first
              | (go_at_call 13; refine (HM.out _).mono ?_; rintro e z1 ⟨rfl, h1⟩; have H1 := Lib.hid h1; clear h1)
              | fail)
            have hown1 : World.ownsRow z1 w1.heap.size 5 1 v N (bvs acc) := World.ownsRow.kept hwr (grown_new H1.out) (by cases v.ownBlock <;> simp)
            clear hwr hown
            go_wp2_with (first
              | (at_builtin; refine wpList_append_own _ rfl _ _ 32 rfl w1.heap.size 5 i0 (.int .u8 0) 1 1 hu hi hz0 hz1 hz2 rfl (by decide) _ _ _ rfl (hown1.alloc _) ⟨z1.heap.size, 0, none⟩ 1 1 [.int .u8 (o : Nat)] rfl rfl (cell_one_new _ _ _) (fun u hu => (by simp at hu; subst hu; rfl)) ?c3 ?c4 ?c5 ?_)
              | fail)
            case c3 => unfold maxLen; have := HLEN.out; omega
            case c4 => have := HLEN.out; omega
            case c5 => have := HB.out.size; have := H1.out.size; simp; omega
            intro v2 z2 hown2 hgrow _
            have hB2 := world_kept (hown1.alloc _) hgrow (balloc (HB.out.trans (H1.out.mono HB.out.size)) _) (Nat.le_refl _) (Nat.le_refl _)
            have hO2 : Ow z2 w1.heap.size v2 (acc ++ [o]) := ⟨fun z hz => (by
              rcases List.mem_append.1 hz with h | h
              · exact HOW.out.1 z h
              · rw [List.mem_singleton.1 h]; exact ho), by
              rw [List.length_append, HNA.out, ← bvs_app]
              exact hown2⟩
            have H2 := Lib.hid (And.intro hO2 hB2)
            clear hown1 hown2 hgrow hB2 hO2 hi hz0 hz1 hz2 hu cX
            have q0 : (0 : Int) < (m : Int) := by have := HQ.out.2.2; omega
            have q1 : (((i + 1 : Nat) : Int) == (n : Int)) = true := by rw [beq_iff_eq]; have := HR.out; omega
            have HFAIL := Lib.hid (HFA.out (HPA.out.1.fail HPA.out.2.1 (by rw [prOp_named HQ.out.1 HO.out HQ.out.2.1]; rw [if_neg HQ.out.2.2])))
            go_wp2_with (first
              | (go_at_call 11; refine (HI.out _).mono ?_; rintro e z3 ⟨rfl, h3⟩; have H3 := Lib.hid h3; clear h3)
              | fail)
            go_ret2
            unfold RpP
            rw [show paT s = ([], 200) from HFAIL.out]
            exact ⟨⟨_, rfl, Ow.nil _ _⟩, HW1.out.trans ((H2.out.2.trans (H3.out.mono H2.out.2.size)).mono HW1.out.size)⟩
          | cons y r2 =>
            have hy : ws[i + 1]? = some y := by
              have h := congrArg (fun l : List ByteArray => l[0]?) hr
              simpa using h
            have hr2 : r2 = ws.drop (i + 1 + 1) := by
              have h := congrArg (List.drop 1) hr
              rw [List.drop_drop] at h
              exact h.symm
            obtain ⟨hyl, _⟩ := List.getElem?_eq_some_iff.1 hy
            have HR2 := Lib.hid (And.intro hr2 (show i + 1 + 1 ≤ ws.length by omega))
            rw [HN.out] at hyl
            have HYM := Lib.hid (List.mem_of_getElem? hy)
            have HR := Lib.hid (And.intro (show y :: r2 = y :: r2 from rfl) (And.intro hyl (show w1.cell? ⟨gS, i + 1, none⟩ = some (.string y) from HCS.out (i + 1) y.data.toList (by rw [List.getElem?_map, hy]; rfl))))
            clear hr hr2 hy hyl
            cases hun : unV y with
            | none =>
              rw [hnb] at HM
              have HI := Lib.hid (fun w => rinfo_any o ho w)
              unfold oiC at HI
              rw [hzo, hmo] at HI
              generalize (oi o).nm = Nm at HI
              generalize (oi o).i = xi at HI
              generalize (oi o).o = xo at HI
              generalize (oi o).g = xg at HI
              generalize (oi o).q = xq at HI
              have hfl := fun w => field_z (.string ⟨Nm.toArray⟩) (.int .i64 (xi : Nat)) (.int .i64 (xo : Nat)) (.int .u64 (xg : Nat)) (.bool xq) (m : Nat) w
              have HQ := Lib.hid (And.intro hnb (And.intro hmo hm0))
              clear hnb hmo hzo hm0
              obtain ⟨hi, hz0, hz1, hz2⟩ := HI0.out
              have hu : Tryd.prog.underlying 32 = some (.slice 5) := by kernel_rfl
              have hwr : World.ownsRow wr w1.heap.size 5 1 v N (bvs acc) := hown
              go_upto_region 12 with (first
                | (go_at_call 13; refine (HM.out _).mono ?_; rintro e z1 ⟨rfl, h1⟩; have H1 := Lib.hid h1; clear h1)
                | fail)
              have hown1 : World.ownsRow z1 w1.heap.size 5 1 v N (bvs acc) := World.ownsRow.kept hwr (grown_new H1.out) (by cases v.ownBlock <;> simp)
              clear hwr hown
              go_wp2_with (first
                | (at_builtin; refine wpList_append_own _ rfl _ _ 32 rfl w1.heap.size 5 i0 (.int .u8 0) 1 1 hu hi hz0 hz1 hz2 rfl (by decide) _ _ _ rfl (hown1.alloc _) ⟨z1.heap.size, 0, none⟩ 1 1 [.int .u8 (o : Nat)] rfl rfl (cell_one_new _ _ _) (fun u hu => (by simp at hu; subst hu; rfl)) ?c3 ?c4 ?c5 ?_)
                | fail)
              case c3 => unfold maxLen; have := HLEN.out; omega
              case c4 => have := HLEN.out; omega
              case c5 => have := HB.out.size; have := H1.out.size; simp; omega
              intro v2 z2 hown2 hgrow _
              have hB2 := world_kept (hown1.alloc _) hgrow (balloc (HB.out.trans (H1.out.mono HB.out.size)) _) (Nat.le_refl _) (Nat.le_refl _)
              have hO2 : Ow z2 w1.heap.size v2 (acc ++ [o]) := ⟨fun z hz => (by
                rcases List.mem_append.1 hz with h | h
                · exact HOW.out.1 z h
                · rw [List.mem_singleton.1 h]; exact ho), by
                rw [List.length_append, HNA.out, ← bvs_app]
                exact hown2⟩
              have H2 := Lib.hid (And.intro hO2 hB2)
              clear hown1 hown2 hgrow hB2 hO2 hi hz0 hz1 hz2 hu cX
              have q0 : (0 : Int) < (m : Int) := by have := HQ.out.2.2; omega
              have q1 : (((i + 1 : Nat) : Int) == (n : Int)) = false := by rw [beq_eq_false_iff_ne]; have := HR.out.2.1; omega
              have q2 : ((i + 1 : Nat) : Int) < (n : Int) := by have := HR.out.2.1; omega
              have q3 : (0 : Int) ≤ ((i + 1 : Nat) : Int) := by omega
              go_upto_region 18 with (first
                | (go_at_call 11; refine (HI.out _).mono ?_; rintro e z3 ⟨rfl, h3⟩; have H3 := Lib.hid h3; clear h3)
                | fail)
              have hb3 : Below w1.heap.size w1 z3 := H2.out.2.trans (H3.out.mono H2.out.2.size)
              have cY3 : z3.cell? ⟨gS, i + 1, none⟩ = some (.string y) := (cell_heap (p := ⟨gS, i + 1, none⟩) (hb3.block gS HGS.out)).trans HR.out.2.2
              have HB3 := Lib.hid hb3
              clear hb3
              have HFAIL := Lib.hid (HFA.out (HPA.out.1.fail HPA.out.2.1 (by rw [prOp_named HQ.out.1 HO.out HQ.out.2.1]; rw [if_neg HQ.out.2.2]; simp only; rw [bxV_unV, hun]; rfl)))
              have HUX := Lib.hid (fun w => unhex_none (HSZ.out y HYM.out) hun w)
              clear hun
              go_wp2_with (first
                | (go_at_call 53; refine (HUX.out _).mono ?_; rintro e z4 ⟨rfl, hB⟩; have H4 := Lib.hid hB; clear hB)
                | fail)
              go_ret2
              unfold RpP
              rw [show paT s = ([], 200) from HFAIL.out]
              exact ⟨⟨_, rfl, Ow.nil _ _⟩, HW1.out.trans ((HB3.out.trans (H4.out.mono HB3.out.size)).mono HW1.out.size)⟩
            | some bs =>
              by_cases hlm : bs.length = m
              · rw [hnb] at HM
                have HI := Lib.hid (fun w => rinfo_any o ho w)
                unfold oiC at HI
                rw [hzo, hmo] at HI
                generalize (oi o).nm = Nm at HI
                generalize (oi o).i = xi at HI
                generalize (oi o).o = xo at HI
                generalize (oi o).g = xg at HI
                generalize (oi o).q = xq at HI
                have hfl := fun w => field_z (.string ⟨Nm.toArray⟩) (.int .i64 (xi : Nat)) (.int .i64 (xo : Nat)) (.int .u64 (xg : Nat)) (.bool xq) (m : Nat) w
                have HQ := Lib.hid (And.intro hnb (And.intro hmo hm0))
                clear hnb hmo hzo hm0
                obtain ⟨hi, hz0, hz1, hz2⟩ := HI0.out
                have hu : Tryd.prog.underlying 32 = some (.slice 5) := by kernel_rfl
                have hwr : World.ownsRow wr w1.heap.size 5 1 v N (bvs acc) := hown
                go_upto_region 12 with (first
                  | (go_at_call 13; refine (HM.out _).mono ?_; rintro e z1 ⟨rfl, h1⟩; have H1 := Lib.hid h1; clear h1)
                  | fail)
                have hown1 : World.ownsRow z1 w1.heap.size 5 1 v N (bvs acc) := World.ownsRow.kept hwr (grown_new H1.out) (by cases v.ownBlock <;> simp)
                clear hwr hown
                go_wp2_with (first
                  | (at_builtin; refine wpList_append_own _ rfl _ _ 32 rfl w1.heap.size 5 i0 (.int .u8 0) 1 1 hu hi hz0 hz1 hz2 rfl (by decide) _ _ _ rfl (hown1.alloc _) ⟨z1.heap.size, 0, none⟩ 1 1 [.int .u8 (o : Nat)] rfl rfl (cell_one_new _ _ _) (fun u hu => (by simp at hu; subst hu; rfl)) ?c3 ?c4 ?c5 ?_)
                  | fail)
                case c3 => unfold maxLen; have := HLEN.out; omega
                case c4 => have := HLEN.out; omega
                case c5 => have := HB.out.size; have := H1.out.size; simp; omega
                intro v2 z2 hown2 hgrow _
                have hB2 := world_kept (hown1.alloc _) hgrow (balloc (HB.out.trans (H1.out.mono HB.out.size)) _) (Nat.le_refl _) (Nat.le_refl _)
                have hO2 : Ow z2 w1.heap.size v2 (acc ++ [o]) := ⟨fun z hz => (by
                  rcases List.mem_append.1 hz with h | h
                  · exact HOW.out.1 z h
                  · rw [List.mem_singleton.1 h]; exact ho), by
                  rw [List.length_append, HNA.out, ← bvs_app]
                  exact hown2⟩
                have H2 := Lib.hid (And.intro hO2 hB2)
                clear hown1 hown2 hgrow hB2 hO2 hi hz0 hz1 hz2 hu cX
                have q0 : (0 : Int) < (m : Int) := by have := HQ.out.2.2; omega
                have q1 : (((i + 1 : Nat) : Int) == (n : Int)) = false := by rw [beq_eq_false_iff_ne]; have := HR.out.2.1; omega
                have q2 : ((i + 1 : Nat) : Int) < (n : Int) := by have := HR.out.2.1; omega
                have q3 : (0 : Int) ≤ ((i + 1 : Nat) : Int) := by omega
                go_upto_region 18 with (first
                  | (go_at_call 11; refine (HI.out _).mono ?_; rintro e z3 ⟨rfl, h3⟩; have H3 := Lib.hid h3; clear h3)
                  | fail)
                have hb3 : Below w1.heap.size w1 z3 := H2.out.2.trans (H3.out.mono H2.out.2.size)
                have cY3 : z3.cell? ⟨gS, i + 1, none⟩ = some (.string y) := (cell_heap (p := ⟨gS, i + 1, none⟩) (hb3.block gS HGS.out)).trans HR.out.2.2
                have HB3 := Lib.hid hb3
                clear hb3
                have HUX := Lib.hid (fun w => unhex_some (HSZ.out y HYM.out) hun w)
                have HST := Lib.hid (HPA.out.1.step HPA.out.2.1 (b := o :: bs) (t := r2) (j := i + 1 + 1) (by rw [prOp_named HQ.out.1 HO.out HQ.out.2.1]; rw [if_neg HQ.out.2.2]; simp only; rw [bxV_unV, hun]; simp only [Option.bind_some]; rw [if_pos hlm]) HR2.out.1 HR2.out.2)
                have HLM := Lib.hid (And.intro hlm (unV_lt hun))
                have q4 : ((m : Int) != (m : Int)) = false := by simp
                clear hun hlm
                go_upto_region 19 with (first
                  | (go_at_call 53; refine (HUX.out _).mono ?_; rintro e z4 ⟨vu, rfl, hO, hB⟩; have H4 := Lib.hid (And.intro hO hB); clear hO hB)
                  | fail)
                have hL4 := H4.out.1
                obtain ⟨u0, hu0⟩ : ∃ u0, bs[0]? = some u0 := ⟨_, List.getElem?_eq_getElem (by have := HLM.out.1; have := HQ.out.2.2; omega)⟩
                obtain ⟨gu, cu, rfl, hgu, hgx, _⟩ := ow_at hL4 hu0
                have hcs : ∀ j u, (bvs bs)[j]? = some u → z4.cell? ((⟨gu, 0, none⟩ : Addr).add j) = some u := ow_cells hL4
                have hon : ∀ u ∈ bvs bs, u.oneCell' = true := bvs_one bs
                rw [HLM.out.1] at hL4 ⊢
                clear hu0 hL4
                have hown4 : World.ownsRow z4 w1.heap.size 5 1 v2 (N + 1) (bvs (acc ++ [o])) := by
                  have h := (H2.out.1.new H3.out).new H4.out.2
                  have h2 := h.2
                  rw [List.length_append, HNA.out] at h2
                  exact h2
                have hlb : (bvs bs).length = m * 1 := by rw [bvs_len, HLM.out.1, Nat.mul_one]
                obtain ⟨hi, hz0, hz1, hz2⟩ := HI0.out
                have hu : Tryd.prog.underlying 32 = some (.slice 5) := by kernel_rfl
                have hlen2 : m ≤ 65538 := by have := HST.out.2.2; rw [List.length_append, List.length_cons, HLM.out.1] at this; have := HWM.out; omega
                have HB4 := Lib.hid (HB3.out.trans (H4.out.2.mono HB3.out.size))
                go_wp2_with (first
                  | (at_builtin; refine wpList_append_own _ rfl _ _ 32 rfl w1.heap.size 5 i0 (.int .u8 0) 1 1 hu hi hz0 hz1 hz2 rfl (by decide) _ _ _ rfl hown4 ⟨gu, 0, none⟩ m cu (bvs bs) rfl hlb hcs hon ?c3 ?c4 ?c5 ?_)
                  | fail)
                case c3 => unfold maxLen; have := HLEN.out; omega
                case c4 => have := HLEN.out; omega
                case c5 => exact HB4.out.size
                intro v5 z5 hown5 hgrow5 _
                have hB5 := world_kept hown4 hgrow5 HB4.out (Nat.le_refl _) (Nat.le_refl _)
                have hO5 : Ow z5 w1.heap.size v5 (acc ++ o :: bs) := ⟨fun z hz => (by
                  rcases List.mem_append.1 hz with h | h
                  · exact HOW.out.1 z h
                  · rcases List.mem_cons.1 h with h | h
                    · rw [h]; exact ho
                    · exact HLM.out.2 z h), by
                  have e1 : acc ++ o :: bs = (acc ++ [o]) ++ bs := by simp
                  rw [e1, List.length_append, List.length_append, HNA.out, HLM.out.1, ← bvs_app]
                  exact hown5⟩
                have H5 := Lib.hid (And.intro hO5 hB5)
                clear hown4 hown5 hgrow5 hB5 hO5 hi hz0 hz1 hz2 hu hcs hon hlb
                go_wp2_with fail
                go_roundw
                case rel => exact ⟨i + 1 + 1, acc ++ o :: bs, by go_num, HST.out, H5.out.1, H5.out.2⟩
                case measure => simp [intOf]; have := HLT.out; omega
              · rw [hnb] at HM
                have HI := Lib.hid (fun w => rinfo_any o ho w)
                unfold oiC at HI
                rw [hzo, hmo] at HI
                generalize (oi o).nm = Nm at HI
                generalize (oi o).i = xi at HI
                generalize (oi o).o = xo at HI
                generalize (oi o).g = xg at HI
                generalize (oi o).q = xq at HI
                have hfl := fun w => field_z (.string ⟨Nm.toArray⟩) (.int .i64 (xi : Nat)) (.int .i64 (xo : Nat)) (.int .u64 (xg : Nat)) (.bool xq) (m : Nat) w
                have HQ := Lib.hid (And.intro hnb (And.intro hmo hm0))
                clear hnb hmo hzo hm0
                obtain ⟨hi, hz0, hz1, hz2⟩ := HI0.out
                have hu : Tryd.prog.underlying 32 = some (.slice 5) := by kernel_rfl
                have hwr : World.ownsRow wr w1.heap.size 5 1 v N (bvs acc) := hown
                go_upto_region 12 with (first
                  | (go_at_call 13; refine (HM.out _).mono ?_; rintro e z1 ⟨rfl, h1⟩; have H1 := Lib.hid h1; clear h1)
                  | fail)
                have hown1 : World.ownsRow z1 w1.heap.size 5 1 v N (bvs acc) := World.ownsRow.kept hwr (grown_new H1.out) (by cases v.ownBlock <;> simp)
                clear hwr hown
                go_wp2_with (first
                  | (at_builtin; refine wpList_append_own _ rfl _ _ 32 rfl w1.heap.size 5 i0 (.int .u8 0) 1 1 hu hi hz0 hz1 hz2 rfl (by decide) _ _ _ rfl (hown1.alloc _) ⟨z1.heap.size, 0, none⟩ 1 1 [.int .u8 (o : Nat)] rfl rfl (cell_one_new _ _ _) (fun u hu => (by simp at hu; subst hu; rfl)) ?c3 ?c4 ?c5 ?_)
                  | fail)
                case c3 => unfold maxLen; have := HLEN.out; omega
                case c4 => have := HLEN.out; omega
                case c5 => have := HB.out.size; have := H1.out.size; simp; omega
                intro v2 z2 hown2 hgrow _
                have hB2 := world_kept (hown1.alloc _) hgrow (balloc (HB.out.trans (H1.out.mono HB.out.size)) _) (Nat.le_refl _) (Nat.le_refl _)
                have hO2 : Ow z2 w1.heap.size v2 (acc ++ [o]) := ⟨fun z hz => (by
                  rcases List.mem_append.1 hz with h | h
                  · exact HOW.out.1 z h
                  · rw [List.mem_singleton.1 h]; exact ho), by
                  rw [List.length_append, HNA.out, ← bvs_app]
                  exact hown2⟩
                have H2 := Lib.hid (And.intro hO2 hB2)
                clear hown1 hown2 hgrow hB2 hO2 hi hz0 hz1 hz2 hu cX
                have q0 : (0 : Int) < (m : Int) := by have := HQ.out.2.2; omega
                have q1 : (((i + 1 : Nat) : Int) == (n : Int)) = false := by rw [beq_eq_false_iff_ne]; have := HR.out.2.1; omega
                have q2 : ((i + 1 : Nat) : Int) < (n : Int) := by have := HR.out.2.1; omega
                have q3 : (0 : Int) ≤ ((i + 1 : Nat) : Int) := by omega
                go_upto_region 18 with (first
                  | (go_at_call 11; refine (HI.out _).mono ?_; rintro e z3 ⟨rfl, h3⟩; have H3 := Lib.hid h3; clear h3)
                  | fail)
                have hb3 : Below w1.heap.size w1 z3 := H2.out.2.trans (H3.out.mono H2.out.2.size)
                have cY3 : z3.cell? ⟨gS, i + 1, none⟩ = some (.string y) := (cell_heap (p := ⟨gS, i + 1, none⟩) (hb3.block gS HGS.out)).trans HR.out.2.2
                have HB3 := Lib.hid hb3
                clear hb3
                have HFAIL := Lib.hid (HFA.out (HPA.out.1.fail HPA.out.2.1 (by rw [prOp_named HQ.out.1 HO.out HQ.out.2.1]; rw [if_neg HQ.out.2.2]; simp only; rw [bxV_unV, hun]; simp only [Option.bind_some]; rw [if_neg hlm])))
                have HUX := Lib.hid (fun w => unhex_some (HSZ.out y HYM.out) hun w)
                have q4 : ((bs.length : Int) != (m : Int)) = true := by rw [bne_iff_ne]; omega
                clear hun hlm
                go_upto_region 19 with (first
                  | (go_at_call 53; refine (HUX.out _).mono ?_; rintro e z4 ⟨vu, rfl, hO, hB⟩; have H4 := Lib.hid (And.intro hO hB); clear hO hB)
                  | fail)
                obtain ⟨yu, cu, rfl⟩ := H4.out.1.is
                go_wp2_with fail
                go_ret2
                unfold RpP
                rw [show paT s = ([], 200) from HFAIL.out]
                exact ⟨⟨_, rfl, Ow.nil _ _⟩, HW1.out.trans ((HB3.out.trans (H4.out.2.mono HB3.out.size)).mono HW1.out.size)⟩
      | false =>
        clear hr ho
        cases hun : unV x with
        | none =>
          rw [hnb] at HM
          have HFAIL := Lib.hid (HFA.out (HPA.out.1.fail HPA.out.2.1 (prOp_none (prN_byte_none hnb (by rw [bxV_unV, hun]; rfl)))))
          have HUX := Lib.hid (fun w => unhex_none (HSZ.out x HXM.out) hun w)
          clear hun hnb
          go_upto_region 22 with (first
            | (go_at_call 13; refine (HM.out _).mono ?_; rintro e z1 ⟨rfl, h1⟩; have H1 := Lib.hid h1; clear h1)
            | fail)
          have cX1 : z1.cell? ⟨gS, i, none⟩ = some (.string x) := (cell_heap (p := ⟨gS, i, none⟩) (H1.out.block gS (Nat.lt_of_lt_of_le HGS.out HB.out.size))).trans cX
          clear cX
          go_upto_region 23 with (first
            | (go_at_call 53; refine (HUX.out _).mono ?_; rintro e z4 ⟨rfl, hB⟩; have H4 := Lib.hid hB; clear hB)
            | fail)
          go_wp2_with fail
          go_ret2
          unfold RpP
          rw [show paT s = ([], 200) from HFAIL.out]
          exact ⟨⟨_, rfl, Ow.nil _ _⟩, HW1.out.trans ((HB.out.trans ((H1.out.trans (H4.out.mono H1.out.size)).mono HB.out.size)).mono HW1.out.size)⟩
        | some bs =>
          by_cases hlm : bs.length = 1
          · obtain ⟨o2, rfl⟩ : ∃ o2, bs = [o2] := by
              match bs, hlm with
              | [a], _ => exact ⟨a, rfl⟩
            clear hlm
            by_cases hem : nmO o2 = ⟨#[]⟩
            · rw [hnb] at HM
              have HUX := Lib.hid (fun w => unhex_some (HSZ.out x HXM.out) hun w)
              have hbx : bxV x 1 = some [o2] := by rw [bxV_unV, hun]; rfl
              have ho2 : o2 < 256 := bxV_lt x o2 hbx
              have HI := Lib.hid (fun w => rinfo_any o2 ho2 w)
              unfold oiC at HI
              rw [show (⟨(oi o2).nm.toArray⟩ : ByteArray) = nmO o2 from rfl] at HI
              have hnm : (nmO o2).toList.isEmpty = true := by rw [hem]; simp
              have hnm2 : ((nmO o2).toList == []) = true := by rw [hem]; simp
              have hfl := fun w => field_nm (nmO o2) (.int .i64 ((oi o2).i : Nat)) (.int .i64 ((oi o2).o : Nat)) (.int .u64 ((oi o2).g : Nat)) (.bool (oi o2).q) (.int .i64 ((oi o2).z : Nat)) w
              have HST := Lib.hid (HPA.out.1.step HPA.out.2.1 (b := [o2]) (t := r) (j := i + 1) (prOp_byte (prN_byte hnb hbx hem) (szO_bare o2 ho2 hem)) HPA.out.2.2.1 (by have := HPA.out.2.2.2; omega))
              clear hun hnb hbx hem
              generalize nmO o2 = Nm at *
              generalize (oi o2).i = xi at *
              generalize (oi o2).o = xo at *
              generalize (oi o2).g = xg at *
              generalize (oi o2).q = xq at *
              generalize (oi o2).z = xz at *
              go_upto_region 22 with (first
                | (go_at_call 13; refine (HM.out _).mono ?_; rintro e z1 ⟨rfl, h1⟩; have H1 := Lib.hid h1; clear h1)
                | fail)
              have cX1 : z1.cell? ⟨gS, i, none⟩ = some (.string x) := (cell_heap (p := ⟨gS, i, none⟩) (H1.out.block gS (Nat.lt_of_lt_of_le HGS.out HB.out.size))).trans cX
              clear cX
              go_upto_region 23 with (first
                | (go_at_call 53; refine (HUX.out _).mono ?_; rintro e z4 ⟨vu, rfl, hO, hB⟩; have H4 := Lib.hid (And.intro hO hB); clear hO hB)
                | fail)
              obtain ⟨gu, cu, rfl, hgu, hgx, cu0⟩ := ow_at (k := 0) (x := o2) H4.out.1 rfl
              simp only [List.length_cons, List.length_nil, Nat.zero_add]
              go_upto_region 25 with (first
                | (go_at_call 11; refine (HI.out _).mono ?_; rintro e z5 ⟨rfl, h5⟩; have H5 := Lib.hid h5; clear h5)
                | fail)
              have hbe := HB.out.trans ((H1.out.trans (H4.out.2.mono H1.out.size)).mono HB.out.size)
              have HB5 := Lib.hid (hbe.trans (H5.out.mono hbe.size))
              have cu5 : z5.cell? ⟨gu, 0, none⟩ = some (.int .u8 (o2 : Nat)) := (cell_heap (p := ⟨gu, 0, none⟩) (H5.out.block gu hgx)).trans cu0
              have hown5 : World.ownsRow z5 w1.heap.size 5 1 v N (bvs acc) := World.ownsRow.kept (World.ownsRow.kept (World.ownsRow.kept hown (grown_new H1.out) (by cases v.ownBlock <;> simp)) (grown_new H4.out.2) (by cases v.ownBlock <;> simp)) (grown_new H5.out) (by cases v.ownBlock <;> simp)
              obtain ⟨hi, hz0, hz1, hz2⟩ := HI0.out
              have hu : Tryd.prog.underlying 32 = some (.slice 5) := by kernel_rfl
              clear hown hbe cu0
              go_wp2_with (first
                | (at_builtin; refine wpList_append_own _ rfl _ _ 32 rfl w1.heap.size 5 i0 (.int .u8 0) 1 1 hu hi hz0 hz1 hz2 rfl (by decide) _ _ _ rfl (hown5.alloc _) ⟨z5.heap.size, 0, none⟩ 1 1 [.int .u8 (o2 : Nat)] rfl rfl (cell_one_new _ _ _) (fun u hu => (by simp at hu; subst hu; rfl)) ?c3 ?c4 ?c5 ?_)
                | fail)
              case c3 => unfold maxLen; have := HLEN.out; omega
              case c4 => have := HLEN.out; omega
              case c5 => have := HB5.out.size; simp; omega
              intro v2 z2 hown2 hgrow _
              have hB2 := world_kept (hown5.alloc _) hgrow (balloc HB5.out _) (Nat.le_refl _) (Nat.le_refl _)
              have hO2 : Ow z2 w1.heap.size v2 (acc ++ [o2]) := ⟨fun z hz => (by
                rcases List.mem_append.1 hz with h | h
                · exact HOW.out.1 z h
                · rw [List.mem_singleton.1 h]; exact ho2), by
                rw [List.length_append, HNA.out, ← bvs_app]
                exact hown2⟩
              have H2 := Lib.hid (And.intro hO2 hB2)
              clear hown5 hown2 hgrow hB2 hO2 hi hz0 hz1 hz2 hu
              go_wp2_with fail
              go_roundw
              case rel => exact ⟨i + 1, acc ++ [o2], by go_num, HST.out, H2.out.1, H2.out.2⟩
              case measure => simp [intOf]; have := HLT.out; omega
            · rw [hnb] at HM
              have HUX := Lib.hid (fun w => unhex_some (HSZ.out x HXM.out) hun w)
              have hbx : bxV x 1 = some [o2] := by rw [bxV_unV, hun]; rfl
              have ho2 : o2 < 256 := bxV_lt x o2 hbx
              have HI := Lib.hid (fun w => rinfo_any o2 ho2 w)
              unfold oiC at HI
              rw [show (⟨(oi o2).nm.toArray⟩ : ByteArray) = nmO o2 from rfl] at HI
              have hnm : (nmO o2).toList.isEmpty = false := by rw [← Bool.not_eq_true]; intro h; apply hem; revert h; unfold nmO; cases (oi o2).nm <;> simp
              have hnm2 : ((nmO o2).toList == []) = false := by rw [← Bool.not_eq_true]; intro h; apply hem; revert h; unfold nmO; cases (oi o2).nm <;> simp
              have hfl := fun w => field_nm (nmO o2) (.int .i64 ((oi o2).i : Nat)) (.int .i64 ((oi o2).o : Nat)) (.int .u64 ((oi o2).g : Nat)) (.bool (oi o2).q) (.int .i64 ((oi o2).z : Nat)) w
              have HFAIL := Lib.hid (HFA.out (HPA.out.1.fail HPA.out.2.1 (prOp_none (prN_byte_named hnb hbx hem))))
              clear hun hnb hbx hem
              generalize nmO o2 = Nm at *
              generalize (oi o2).i = xi at *
              generalize (oi o2).o = xo at *
              generalize (oi o2).g = xg at *
              generalize (oi o2).q = xq at *
              generalize (oi o2).z = xz at *
              go_upto_region 22 with (first
                | (go_at_call 13; refine (HM.out _).mono ?_; rintro e z1 ⟨rfl, h1⟩; have H1 := Lib.hid h1; clear h1)
                | fail)
              have cX1 : z1.cell? ⟨gS, i, none⟩ = some (.string x) := (cell_heap (p := ⟨gS, i, none⟩) (H1.out.block gS (Nat.lt_of_lt_of_le HGS.out HB.out.size))).trans cX
              clear cX
              go_upto_region 23 with (first
                | (go_at_call 53; refine (HUX.out _).mono ?_; rintro e z4 ⟨vu, rfl, hO, hB⟩; have H4 := Lib.hid (And.intro hO hB); clear hO hB)
                | fail)
              obtain ⟨gu, cu, rfl, hgu, hgx, cu0⟩ := ow_at (k := 0) (x := o2) H4.out.1 rfl
              simp only [List.length_cons, List.length_nil, Nat.zero_add]
              go_wp2_with (first
                | (go_at_call 11; refine (HI.out _).mono ?_; rintro e z5 ⟨rfl, h5⟩; have H5 := Lib.hid h5; clear h5)
                | fail)
              have hbe := HB.out.trans ((H1.out.trans (H4.out.2.mono H1.out.size)).mono HB.out.size)
              go_ret2
              unfold RpP
              rw [show paT s = ([], 200) from HFAIL.out]
              exact ⟨⟨_, rfl, Ow.nil _ _⟩, HW1.out.trans ((hbe.trans (H5.out.mono hbe.size)).mono HW1.out.size)⟩
          · rw [hnb] at HM
            have HFAIL := Lib.hid (HFA.out (HPA.out.1.fail HPA.out.2.1 (prOp_none (prN_byte_none hnb (by rw [bxV_unV, hun]; simp only [Option.bind_some]; rw [if_neg hlm])))))
            have HUX := Lib.hid (fun w => unhex_some (HSZ.out x HXM.out) hun w)
            have q4 : ((bs.length : Int) != 1) = true := by rw [bne_iff_ne]; omega
            clear hun hnb hlm
            go_upto_region 22 with (first
              | (go_at_call 13; refine (HM.out _).mono ?_; rintro e z1 ⟨rfl, h1⟩; have H1 := Lib.hid h1; clear h1)
              | fail)
            have cX1 : z1.cell? ⟨gS, i, none⟩ = some (.string x) := (cell_heap (p := ⟨gS, i, none⟩) (H1.out.block gS (Nat.lt_of_lt_of_le HGS.out HB.out.size))).trans cX
            clear cX
            go_upto_region 23 with (first
              | (go_at_call 53; refine (HUX.out _).mono ?_; rintro e z4 ⟨vu, rfl, hO, hB⟩; have H4 := Lib.hid (And.intro hO hB); clear hO hB)
              | fail)
            obtain ⟨yu, cu, rfl⟩ := H4.out.1.is
            go_wp2_with fail
            go_ret2
            unfold RpP
            rw [show paT s = ([], 200) from HFAIL.out]
            exact ⟨⟨_, rfl, Ow.nil _ _⟩, HW1.out.trans ((HB.out.trans ((H1.out.trans (H4.out.2.mono H1.out.size)).mono HB.out.size)).mono HW1.out.size)⟩
    · have hin : i = n := by have := hpa.1; rw [HN.out] at this; omega
      have g0 : ¬ (i : Int) < (n : Int) := by omega
      have hpd : paT s = (acc, 0) := HOK.out _ (PaI.done (by rw [hin, ← HN.out] at hpa; exact hpa))
      have HE := Lib.hid (And.intro hpd (And.intro how hbl))
      clear hpa how hbl hin hpd hlt
      go_wp2_with fail
      go_ret2
      unfold RpP
      rw [HE.out.1]
      exact ⟨⟨_, rfl, ⟨HE.out.2.1.1, HE.out.2.1.2.mono HW1.out.size⟩⟩, HW1.out.trans (HE.out.2.2.mono HW1.out.size)⟩
theorem rparse_any (s : ByteArray) (h1 : s.size ≤ 65536) (w : World) : Calls Tryd.prog 25 #[.string s] w fun e w' => RpP s w e w' := by
  by_cases h2 : s.size = 0
  · obtain rfl : s = ⟨#[]⟩ := by
      rcases s with ⟨⟨_ | ⟨a, l⟩⟩⟩
      · rfl
      · simp [ByteArray.size] at h2
    have hp : paT ⟨#[]⟩ = ([], 0) := by unfold paT; rw [if_neg (by omega), if_pos h2]
    have HP := Lib.hid hp
    clear h1 h2 hp
    go_enter Tryd.func25, Tryd.ntmps25
    go_wp2_with fail
    go_ret2
    unfold RpP
    rw [HP.out]
    exact ⟨⟨_, rfl, Ow.nil _ _⟩, Below.refl _ _⟩
  · exact rparse_loop s h1 h2 w
end Go.Proofs.YtcdmaapjcckbmaaDoor

/- code: a text's words and the code, in plain lists. -/
namespace Go.Proofs.YtcdmaapjcckbmaaDoor
open Go.RowKit Go.Shelf

/-! Words with blanks between them. -/
def jnW : List (List UInt8) → List UInt8
  | [] => []
  | [x] => x
  | x :: y :: r => x ++ 32 :: jnW (y :: r)
theorem jnW_cons (x : List UInt8) (r : List (List UInt8)) (h : r ≠ []) : jnW (x :: r) = x ++ 32 :: jnW r := by
  cases r with
  | nil => exact absurd rfl h
  | cons y r => rfl
theorem jnW_app (a b : List (List UInt8)) (ha : a ≠ []) (hb : b ≠ []) : jnW (a ++ b) = jnW a ++ 32 :: jnW b := by
  induction a with
  | nil => exact absurd rfl ha
  | cons x r ih =>
    cases r with
    | nil => exact jnW_cons x b hb
    | cons y r =>
      rw [List.cons_append, jnW_cons _ _ (by simp), ih (by simp), jnW_cons x (y :: r) (by simp)]
      simp
theorem spR_ne (c : UInt8) (l cur : List UInt8) : spR c cur l ≠ [] := by
  induction l generalizing cur with
  | nil => simp [spR]
  | cons b l ih => rw [spR]; split <;> simp [ih]
theorem jnW_spR (l : List UInt8) : ∀ cur, jnW (spR 32 cur l) = cur ++ l := by
  induction l with
  | nil => intro cur; simp [spR, jnW]
  | cons b l ih =>
    intro cur
    rw [spR]
    split
    · rename_i e
      rw [jnW_cons _ _ (spR_ne 32 l []), ih, e]
      simp
    · rw [ih]; simp
theorem jnW_split (l : List UInt8) : jnW (Lib.split l [32]) = l := by
  have := jnW_spR l []
  rwa [spR_split 32 l [] (by simp), List.nil_append] at this
theorem split_jnW : ∀ (ws : List (List UInt8)), ws ≠ [] → (∀ x ∈ ws, (32 : UInt8) ∉ x) → Lib.split (jnW ws) [32] = ws
  | [], h, _ => absurd rfl h
  | [x], _, h => split_none 32 x (h x (by simp))
  | x :: y :: r, _, h => by
    rw [jnW_cons _ _ (by simp), split_step 32 x _ (h x (by simp)), split_jnW (y :: r) (by simp) (fun z hz => h z (by simp at hz ⊢; exact Or.inr hz))]
/-! Ops with their bytes. -/
def OsOk (os : List (Nat × List Nat)) : Prop := ∀ x ∈ os, x.1 < 256 ∧ x.2.length = szO x.1 ∧ ∀ z ∈ x.2, z < 256
def fl (os : List (Nat × List Nat)) : List Nat := os.flatMap fun x => x.1 :: x.2
def wd1 (x : Nat × List Nat) : List (List UInt8) := nmB x.1 :: (if szO x.1 = 0 then [] else [hxB x.2])
def wds (os : List (Nat × List Nat)) : List (List UInt8) := os.flatMap wd1
/-- The ops of code. -/
def osK (l : List Nat) (k : Nat) : List (Nat × List Nat) := (List.range k).map fun j => (opB l j, bhL l (pos l j))
def osL (l : List Nat) : List (Nat × List Nat) := osK l (opsN l)
theorem osK_succ (l : List Nat) (k : Nat) : osK l (k + 1) = osK l k ++ [(opB l k, bhL l (pos l k))] := by unfold osK; rw [List.range_succ, List.map_append]; rfl
theorem bhL_all {l : List Nat} (h : ∀ x ∈ l, x < 256) (p : Nat) : ∀ z ∈ bhL l p, z < 256 := by
  intro z hz
  unfold bhL at hz
  obtain ⟨i, _, rfl⟩ := List.mem_map.1 hz
  rw [List.getD_eq_getElem?_getD]
  cases h2 : l[p + 1 + i]? with
  | none => simp
  | some y => exact h y (List.mem_of_getElem? h2)
theorem osL_ok {l : List Nat} (h : ∀ x ∈ l, x < 256) : OsOk (osL l) := by
  intro x hx
  unfold osL osK at hx
  obtain ⟨k, _, rfl⟩ := List.mem_map.1 hx
  exact ⟨opB_lt h k, bhL_len _ _, bhL_all h _⟩
theorem txK_words (l : List Nat) (k : Nat) : txK l k = jnW (wds (osK l k)) := by
  induction k with
  | zero => rfl
  | succ k ih =>
    rw [osK_succ]
    have e : wds (osK l k ++ [(opB l k, bhL l (pos l k))]) = wds (osK l k) ++ wd1 (opB l k, bhL l (pos l k)) := by unfold wds; simp
    have e1 : jnW (wd1 (opB l k, bhL l (pos l k))) = nmB (opB l k) ++ (if szO (opB l k) = 0 then [] else 32 :: hxB (bhL l (pos l k))) := by
      unfold wd1
      simp only
      split <;> simp [jnW]
    rw [e]
    show txK l k ++ opT l k = _
    rw [ih]
    unfold opT
    by_cases hk : k = 0
    · subst hk
      have : pos l 0 = 0 := rfl
      rw [if_pos this]
      have e0 : wds (osK l 0) = [] := rfl
      rw [e0]
      simp only [List.nil_append, jnW, e1]
    · have hp : pos l k ≠ 0 := by have := pos_ge l k; omega
      rw [if_neg hp, jnW_app _ _ ?_ (by unfold wd1; simp), e1]
      · simp
      · obtain ⟨j, rfl⟩ : ∃ j, k = j + 1 := ⟨k - 1, by omega⟩
        rw [osK_succ]
        unfold wds wd1
        simp
theorem txL10_words (l : List Nat) : txL10 l = jnW (wds (osL l)) := txK_words l _
/-- Code with noughts behind, where its last op lacks bytes. -/
def paD (l : List Nat) : List Nat := (List.range (pos l (opsN l))).map fun i => l.getD i 0
theorem fl_osK (l : List Nat) (k : Nat) : fl (osK l k) = (List.range (pos l k)).map fun i => l.getD i 0 := by
  induction k with
  | zero => rfl
  | succ k ih =>
    rw [osK_succ]
    have e : fl (osK l k ++ [(opB l k, bhL l (pos l k))]) = fl (osK l k) ++ (opB l k :: bhL l (pos l k)) := by unfold fl; simp
    rw [e, ih]
    have e2 : pos l (k + 1) = pos l k + (1 + szO (opB l k)) := by show pos l k + 1 + szO (l.getD (pos l k) 0) = _; unfold opB; omega
    rw [e2, List.range_add, List.map_append, List.map_map]
    congr 1
    rw [Nat.add_comm 1, List.range_succ_eq_map]
    simp only [List.map_cons, List.map_map, Function.comp_apply, Nat.add_zero]
    unfold bhL opB
    congr 1
    apply List.map_congr_left
    intro i _
    simp only [Function.comp_apply]
    congr 1
    omega
theorem fl_osL (l : List Nat) : fl (osL l) = paD l := fl_osK l _
/-! The ops of code put together of ops. -/
theorem pos_app {o : Nat} {bs R : List Nat} (hb : bs.length = szO o) (k : Nat) : pos (o :: (bs ++ R)) (k + 1) = 1 + szO o + pos R k := by
  induction k with
  | zero => show 0 + 1 + szO o = _; simp [pos]
  | succ k ih =>
    show nxt (o :: (bs ++ R)) (pos (o :: (bs ++ R)) (k + 1)) = 1 + szO o + nxt R (pos R k)
    unfold nxt
    rw [ih]
    have e : (o :: (bs ++ R)).getD (1 + szO o + pos R k) 0 = R.getD (pos R k) 0 := by
      rw [List.getD_eq_getElem?_getD, List.getD_eq_getElem?_getD, show 1 + szO o + pos R k = (szO o + pos R k) + 1 by omega, List.getElem?_cons_succ, List.getElem?_append_right (by omega)]
      congr 2
      omega
    rw [e]
    omega
theorem opsN_app {o : Nat} {bs R : List Nat} (hb : bs.length = szO o) : opsN (o :: (bs ++ R)) = opsN R + 1 := by
  have h1 := opsN_spec (o :: (bs ++ R))
  have h2 := opsN_spec R
  have hl : (o :: (bs ++ R)).length = 1 + szO o + R.length := by simp; omega
  have hle : opsN R + 1 ≤ opsN (o :: (bs ++ R)) := by
    rcases Nat.lt_or_ge (opsN (o :: (bs ++ R))) (opsN R + 1) with h | h
    · exfalso
      cases hN : opsN (o :: (bs ++ R)) with
      | zero => rw [hN] at h1; have := h1.1; rw [hl] at this; simp [pos] at this
      | succ N =>
        have h3 := h1.1
        rw [hN, pos_app hb, hl] at h3
        have := h2.2.2 N (by omega)
        omega
    · exact h
  rcases Nat.lt_or_ge (opsN R + 1) (opsN (o :: (bs ++ R))) with h | h
  · exfalso
    have h3 := h1.2.2 _ h
    rw [pos_app hb, hl] at h3
    have := h2.1
    omega
  · omega
theorem getD_app {o : Nat} {bs R : List Nat} (hb : bs.length = szO o) (i : Nat) : (o :: (bs ++ R)).getD (1 + szO o + i) 0 = R.getD i 0 := by
  rw [List.getD_eq_getElem?_getD, List.getD_eq_getElem?_getD, show 1 + szO o + i = (szO o + i) + 1 by omega, List.getElem?_cons_succ, List.getElem?_append_right (by omega)]
  congr 2
  omega
theorem osL_app {o : Nat} {bs R : List Nat} (hb : bs.length = szO o) : osL (o :: (bs ++ R)) = (o, bs) :: osL R := by
  unfold osL osK
  rw [opsN_app hb, List.range_succ_eq_map, List.map_cons, List.map_map]
  have e0 : (opB (o :: (bs ++ R)) 0, bhL (o :: (bs ++ R)) (pos (o :: (bs ++ R)) 0)) = (o, bs) := by
    refine Prod.ext rfl ?_
    show bhL (o :: (bs ++ R)) 0 = bs
    unfold bhL
    show (List.range (szO o)).map _ = bs
    rw [← hb]
    apply List.ext_getElem?
    intro i
    by_cases hi : i < bs.length
    · rw [List.getElem?_map, List.getElem?_range hi, List.getElem?_eq_getElem hi]
      simp only [Option.map_some]
      rw [List.getD_eq_getElem?_getD, show 0 + 1 + i = i + 1 by omega, List.getElem?_cons_succ, List.getElem?_append_left hi, List.getElem?_eq_getElem hi]
      rfl
    · rw [List.getElem?_eq_none (by simp; omega), List.getElem?_eq_none (by omega)]
  refine List.cons_eq_cons.2 ⟨e0, ?_⟩
  apply List.map_congr_left
  intro k _
  simp only [Function.comp_apply, Nat.succ_eq_add_one]
  refine Prod.ext ?_ ?_
  · show (o :: (bs ++ R)).getD (pos (o :: (bs ++ R)) (k + 1)) 0 = R.getD (pos R k) 0
    rw [pos_app hb, getD_app hb]
  · show bhL (o :: (bs ++ R)) (pos (o :: (bs ++ R)) (k + 1)) = bhL R (pos R k)
    unfold bhL
    rw [pos_app hb, getD_app hb]
    apply List.map_congr_left
    intro i _
    rw [show 1 + szO o + pos R k + 1 + i = 1 + szO o + (pos R k + 1 + i) by omega, getD_app hb]
theorem osL_fl (os : List (Nat × List Nat)) (h : OsOk os) : osL (fl os) = os := by
  induction os with
  | nil => rfl
  | cons x os ih =>
    obtain ⟨o, bs⟩ := x
    have hx := h (o, bs) (by simp)
    have e : fl ((o, bs) :: os) = o :: (bs ++ fl os) := by unfold fl; simp
    rw [e, osL_app hx.2.1, ih (fun y hy => h y (by simp [hy]))]
theorem txL10_fl (os : List (Nat × List Nat)) (h : OsOk os) : txL10 (fl os) = jnW (wds os) := by rw [txL10_words, osL_fl os h]
end Go.Proofs.YtcdmaapjcckbmaaDoor

/- code: the text of code is read as the code; what is read has the text. -/
namespace Go.Proofs.YtcdmaapjcckbmaaDoor
open Go.RowKit Go.Shelf

theorem hx_dgV : ∀ c : Fin 256, dgV c.val < 16 → hx (dgV c.val) = c.val := by decide +kernel
theorem dgV_hx : ∀ d : Fin 16, dgV (hx d.val) = d.val ∧ hx d.val < 256 ∧ hx d.val ≠ 32 := by decide +kernel
theorem hgN_shift (a b : UInt8) (D : List UInt8) (i : Nat) : hgN (a :: b :: D) (i + 2) = hgN D i := by unfold hgN; simp
theorem byV_cons (a b : UInt8) (D : List UInt8) (m : Nat) : byV (a :: b :: D) (m + 1) = (16 * dgV a.toNat + dgV b.toNat) :: byV D m := by
  unfold byV
  rw [List.range_succ_eq_map, List.map_cons, List.map_map]
  refine List.cons_eq_cons.2 ⟨rfl, ?_⟩
  apply List.map_congr_left
  intro i _
  simp only [Function.comp_apply, Nat.succ_eq_add_one]
  rw [show 2 * (i + 1) = 2 * i + 2 by omega, show 2 * i + 2 + 1 = (2 * i + 1) + 2 by omega, hgN_shift, hgN_shift]
/-- The digits of bytes. -/
def hD (bs : List Nat) : List UInt8 := (bs.flatMap fun c => [hx (c / 16), hx (c % 16)]).map UInt8.ofNat
theorem hxB_hD (bs : List Nat) : hxB bs = 48 :: 120 :: hD bs := by unfold hxB hxL hD; simp
theorem hD_cons (c : Nat) (bs : List Nat) : hD (c :: bs) = UInt8.ofNat (hx (c / 16)) :: UInt8.ofNat (hx (c % 16)) :: hD bs := by unfold hD; simp
theorem hD_byV : ∀ (m : Nat) (D : List UInt8), D.length = 2 * m → dgO D (2 * m) → hD (byV D m) = D
  | 0, D, h, _ => by
    have : D = [] := List.eq_nil_of_length_eq_zero (by omega)
    subst this; rfl
  | m + 1, D, h, hd => by
    match D, h with
    | a :: b :: D, h =>
      have ha := hd 0 (by omega)
      have hb := hd 1 (by omega)
      have ha2 : dgV a.toNat < 16 := ha
      have hb2 : dgV b.toNat < 16 := hb
      have ea := hx_dgV ⟨a.toNat, a.toNat_lt⟩ ha2
      have eb := hx_dgV ⟨b.toNat, b.toNat_lt⟩ hb2
      simp only at ea eb
      rw [byV_cons, hD_cons, hD_byV m D (by simp at h; omega) (fun i hi => by have := hd (i + 2) (by omega); rwa [hgN_shift] at this)]
      rw [show (16 * dgV a.toNat + dgV b.toNat) / 16 = dgV a.toNat by omega, show (16 * dgV a.toNat + dgV b.toNat) % 16 = dgV b.toNat by omega, ea, eb]
      simp
theorem byV_hD : ∀ (bs : List Nat), (∀ z ∈ bs, z < 256) → byV (hD bs) bs.length = bs ∧ (hD bs).length = 2 * bs.length ∧ dgO (hD bs) (2 * bs.length)
  | [], _ => ⟨rfl, rfl, fun i hi => absurd hi (Nat.not_lt_zero i)⟩
  | c :: bs, h => by
    obtain ⟨h1, h2, h3⟩ := byV_hD bs (fun z hz => h z (by simp [hz]))
    have hc := h c (by simp)
    obtain ⟨p1, p2, _⟩ := dgV_hx ⟨c / 16, by omega⟩
    obtain ⟨q1, q2, _⟩ := dgV_hx ⟨c % 16, by omega⟩
    simp only at p1 p2 q1 q2
    have e1 : (UInt8.ofNat (hx (c / 16))).toNat = hx (c / 16) := by simp; omega
    have e2 : (UInt8.ofNat (hx (c % 16))).toNat = hx (c % 16) := by simp; omega
    rw [hD_cons]
    refine ⟨?_, by simp [h2]; omega, ?_⟩
    · rw [List.length_cons, byV_cons, h1, e1, e2, p1, q1]
      congr 1
      omega
    · intro i hi
      match i, hi with
      | 0, _ => show dgV _ < 16; simp only [List.getD_cons_zero]; rw [e1, p1]; omega
      | 1, _ => show dgV _ < 16; simp only [List.getD_cons_succ, List.getD_cons_zero]; rw [e2, q1]; omega
      | i + 2, hi => rw [hgN_shift]; exact h3 i (by simp at hi; omega)
theorem bxV_hxB (bs : List Nat) (h : ∀ z ∈ bs, z < 256) : bxV ⟨(hxB bs).toArray⟩ bs.length = some bs := by
  obtain ⟨h1, h2, h3⟩ := byV_hD bs h
  have e : (ByteArray.mk (hxB bs).toArray).data.toList = 48 :: 120 :: hD bs := by rw [hxB_hD]
  unfold bxV
  rw [e]
  have hp : Lib.hasPrefix (48 :: 120 :: hD bs) [48, 120] = true := by simp [Lib.hasPrefix, List.isPrefixOf]
  have ht : Lib.trimPrefix (48 :: 120 :: hD bs) [48, 120] = hD bs := by unfold Lib.trimPrefix; rw [if_pos hp]; rfl
  rw [ht, if_pos ⟨hp, h2, h3⟩, h1]
theorem hxB_of_bxV {y : ByteArray} {m : Nat} {bs : List Nat} (h : bxV y m = some bs) : y.data.toList = hxB bs := by
  unfold bxV at h
  split at h
  · rename_i hc
    injection h with h
    obtain ⟨h1, h2, h3⟩ := hc
    have hp : [48, 120] <+: y.data.toList := by rw [← List.isPrefixOf_iff_prefix]; exact h1
    obtain ⟨D, hD'⟩ := hp
    have e : Lib.trimPrefix y.data.toList [48, 120] = D := by unfold Lib.trimPrefix; rw [if_pos h1, ← hD']; rfl
    rw [e] at h h2 h3
    rw [← h, hxB_hD, hD_byV m D h2 h3, ← hD']
    rfl
  · cases h
def bA (x : List UInt8) : ByteArray := ⟨x.toArray⟩
theorem bA_data (y : ByteArray) : bA y.data.toList = y := rfl
set_option maxRecDepth 100000 in
theorem nb_hx : ∀ n : Fin 256, nb (bA (hxB [n.val])) = false := by decide +kernel
theorem nmO_nil (n : Nat) (h : (oi n).nm.isEmpty = true) : nmO n = ⟨#[]⟩ := by
  unfold nmO
  rw [List.isEmpty_iff.1 h]
theorem prN_nmB (o : Nat) (ho : o < 256) : prN (bA (nmB o)) = some o := by
  unfold nmB
  split
  · rename_i he
    have h1 := nb_hx ⟨o, ho⟩
    exact prN_byte h1 (bxV_hxB [o] (by simp [ho])) (nmO_nil o he)
  · rename_i he
    have h1 := nm_all ⟨o, ho⟩
    have hi : isO o = true := by unfold isO; simp only [Bool.not_eq_true] at he; rw [he]; rfl
    simp only at h1
    rw [hi] at h1
    unfold prN
    have h2 : nb (bA (oi o).nm) = true := h1.1
    have h3 : nk (bA (oi o).nm) = o := h1.2 rfl
    rw [if_pos h2, h3]
theorem prOp_words (x : Nat × List Nat) (h : x.1 < 256 ∧ x.2.length = szO x.1 ∧ ∀ z ∈ x.2, z < 256) (r : List ByteArray) : prOp ((wd1 x).map bA ++ r) = some (x.1 :: x.2, r) := by
  obtain ⟨o, bs⟩ := x
  obtain ⟨h1, h2, h3⟩ := h
  simp only at h1 h2 h3
  unfold wd1
  simp only
  by_cases hz : szO o = 0
  · rw [if_pos hz]
    have : bs = [] := List.eq_nil_of_length_eq_zero (by omega)
    subst this
    exact prOp_byte (prN_nmB o h1) hz
  · rw [if_neg hz]
    have hb := bxV_hxB bs h3
    rw [h2] at hb
    simp only [List.map_cons, List.map_nil, List.cons_append, List.nil_append]
    simp only [prOp, prN_nmB o h1, if_neg hz]
    have hb' : bxV (bA (hxB bs)) (szO o) = some bs := hb
    rw [hb']
theorem rdW_words : ∀ (os : List (Nat × List Nat)), OsOk os → ∀ f, os.length ≤ f → rdW f ((wds os).map bA) = some (fl os)
  | [], _, f, _ => by cases f <;> rfl
  | x :: os, h, f, hf => by
    obtain ⟨g, rfl⟩ : ∃ g, f = g + 1 := ⟨f - 1, by simp at hf; omega⟩
    have hx := h x (by simp)
    have hw : (wds (x :: os)).map bA = (wd1 x).map bA ++ (wds os).map bA := by unfold wds; simp
    have hp := prOp_words x hx ((wds os).map bA)
    rw [hw]
    obtain ⟨a, r, har⟩ : ∃ a r, (wd1 x).map bA ++ (wds os).map bA = a :: r := by unfold wd1; exact ⟨_, _, rfl⟩
    rw [har] at hp ⊢
    rw [rdW_some hp, rdW_words os (fun y hy => h y (by simp [hy])) g (by simp at hf; omega)]
    unfold fl
    simp
theorem nk_name {x : ByteArray} (h : nb x = true) : x.data.toList = nmB (nk x) ∧ nk x < 256 := by
  unfold nb at h
  cases hn : nix x with
  | none => rw [hn] at h; cases h
  | some k =>
    obtain ⟨h1, h2, h3, _⟩ := nix_some hn
    have hk : nk x = k := by unfold nk; rw [hn]; rfl
    rw [hk]
    refine ⟨?_, h2⟩
    unfold nmB
    rw [if_neg]
    · rw [← h3]; unfold nmO; rfl
    · intro he
      exact h1 (by rw [← h3]; exact nmO_nil k he)
theorem prN_inv {x : ByteArray} {o : Nat} (h : prN x = some o) : x.data.toList = nmB o ∧ o < 256 := by
  unfold prN at h
  split at h
  · rename_i hn
    injection h with h
    subst h
    exact nk_name hn
  · cases hb : bxV x 1 with
    | none => rw [hb] at h; cases h
    | some bs =>
      rw [hb] at h
      simp only at h
      obtain ⟨hl, hz⟩ := bxV_ok x 1 bs hb
      obtain ⟨a, rfl⟩ : ∃ a, bs = [a] := by match bs, hl with | [a], _ => exact ⟨a, rfl⟩
      simp only [List.getD_cons_zero] at h
      split at h
      · rename_i he
        injection h with h
        subst h
        refine ⟨?_, hz a (by simp)⟩
        unfold nmB
        rw [if_pos, hxB_of_bxV hb]
        have := congrArg (fun b : ByteArray => b.data.toList) he
        have h2 : (oi a).nm = [] := by simpa [nmO] using this
        rw [h2]; rfl
      · cases h
theorem prOp_inv {x : ByteArray} {r t : List ByteArray} {b : List Nat} (h : prOp (x :: r) = some (b, t)) : ∃ y : Nat × List Nat, b = y.1 :: y.2 ∧ (y.1 < 256 ∧ y.2.length = szO y.1 ∧ ∀ z ∈ y.2, z < 256) ∧ (x :: r).map (·.data.toList) = wd1 y ++ t.map (·.data.toList) := by
  unfold prOp at h
  simp only at h
  cases hn : prN x with
  | none => rw [hn] at h; cases h
  | some o =>
    rw [hn] at h
    obtain ⟨hx, ho⟩ := prN_inv hn
    simp only at h
    split at h
    · rename_i hz
      injection h with h
      injection h with h1 h2
      subst h1; subst h2
      exact ⟨(o, []), rfl, ⟨ho, by simp [hz], by simp⟩, by unfold wd1; simp [hz, hx]⟩
    · rename_i hz
      cases r with
      | nil => cases h
      | cons y r2 =>
        simp only at h
        cases hy : bxV y (szO o) with
        | none => rw [hy] at h; cases h
        | some bs =>
          rw [hy] at h
          injection h with h
          injection h with h1 h2
          subst h1; subst h2
          obtain ⟨q1, q2⟩ := bxV_ok y _ bs hy
          exact ⟨(o, bs), rfl, ⟨ho, q1, q2⟩, by unfold wd1; simp [hz, hx, hxB_of_bxV hy]⟩
theorem rdW_inv : ∀ (n : Nat) (ws : List ByteArray) (L : List Nat), rdW n ws = some L → ∃ os, OsOk os ∧ L = fl os ∧ ws.map (·.data.toList) = wds os
  | n, [], L, h => by
    have : L = [] := by cases n <;> simpa [rdW] using h.symm
    subst this
    exact ⟨[], by intro x hx; simp at hx, rfl, rfl⟩
  | 0, x :: r, L, h => by cases h
  | n + 1, x :: r, L, h => by
    cases hp : prOp (x :: r) with
    | none => rw [rdW_none hp] at h; cases h
    | some bt =>
      obtain ⟨b, t⟩ := bt
      rw [rdW_some hp] at h
      cases hr : rdW n t with
      | none => rw [hr] at h; cases h
      | some L2 =>
        rw [hr] at h
        injection h with h
        obtain ⟨os, h1, h2, h3⟩ := rdW_inv n t L2 hr
        obtain ⟨y, e1, e2, e3⟩ := prOp_inv hp
        refine ⟨y :: os, fun z hz => ?_, ?_, ?_⟩
        · rcases List.mem_cons.1 hz with rfl | hz
          · exact e2
          · exact h1 z hz
        · rw [← h, h2, e1]; unfold fl; simp
        · rw [e3, h3]; unfold wds; simp
theorem nmB_32 (o : Nat) (ho : o < 256) : (32 : UInt8) ∉ nmB o := by
  have : ∀ k : Fin 256, (32 : UInt8) ∉ nmB k.val := by decide +kernel
  exact this ⟨o, ho⟩
theorem hxB_32 (bs : List Nat) (h : ∀ z ∈ bs, z < 256) : (32 : UInt8) ∉ hxB bs := by
  rw [hxB_hD]
  intro hm
  simp only [List.mem_cons] at hm
  rcases hm with hm | hm | hm
  · exact absurd hm (by decide)
  · exact absurd hm (by decide)
  · induction bs with
    | nil => simp [hD] at hm
    | cons c bs ih =>
      rw [hD_cons] at hm
      have hc := h c (by simp)
      have key : ∀ d, d < 16 → (32 : UInt8) ≠ UInt8.ofNat (hx d) := fun d hd e => by
        obtain ⟨_, q2, q3⟩ := dgV_hx ⟨d, hd⟩
        simp only at q2 q3
        have := congrArg UInt8.toNat e
        simp at this
        omega
      rcases List.mem_cons.1 hm with hm | hm
      · exact key _ (by omega) hm
      · rcases List.mem_cons.1 hm with hm | hm
        · exact key _ (by omega) hm
        · exact ih (fun z hz => h z (by simp [hz])) hm
theorem wds_32 {os : List (Nat × List Nat)} (h : OsOk os) : ∀ x ∈ wds os, (32 : UInt8) ∉ x := by
  intro x hx
  unfold wds at hx
  obtain ⟨y, hy, hx⟩ := List.mem_flatMap.1 hx
  obtain ⟨h1, _, h3⟩ := h y hy
  unfold wd1 at hx
  rcases List.mem_cons.1 hx with rfl | hx
  · exact nmB_32 _ h1
  · split at hx
    · simp at hx
    · rw [List.mem_singleton.1 hx]; exact hxB_32 _ h3
theorem wds_len (os : List (Nat × List Nat)) : os.length ≤ (wds os).length := by
  induction os with
  | nil => simp
  | cons x os ih => unfold wds wd1 at ih ⊢; simp at ih ⊢; omega
theorem map_bA (L : List ByteArray) : (L.map (·.data.toList)).map bA = L := by
  induction L with
  | nil => rfl
  | cons a r ih => simp only [List.map_cons, ih]; rfl
theorem rdT_words (os : List (Nat × List Nat)) (h : OsOk os) (hne : os ≠ []) : rdT (bA (jnW (wds os))) = some (fl os) := by
  have hw : wds os ≠ [] := by
    intro e
    have := wds_len os
    rw [e] at this
    exact hne (List.eq_nil_of_length_eq_zero (by simpa using this))
  have e := pcs_data 32 (bA (jnW (wds os)))
  have e1 : (bA (jnW (wds os))).data.toList = jnW (wds os) := rfl
  rw [e1, split_jnW _ hw (wds_32 h)] at e
  have e2 : pcs 32 (bA (jnW (wds os))) = (wds os).map bA := by have h := map_bA (pcs 32 (bA (jnW (wds os)))); rw [e] at h; exact h.symm
  unfold rdT
  rw [e2]
  exact rdW_words os h _ (by rw [List.length_map]; exact wds_len os)
theorem text_of {s : ByteArray} {L : List Nat} (h : paT s = (L, 0)) : txL10 L = s.data.toList ∧ (∀ z ∈ L, z < 256) := by
  unfold paT at h
  split at h
  · injection h with _ h; cases h
  · split at h
    · rename_i h2
      injection h with h _
      subst h
      refine ⟨?_, by simp⟩
      have : s.data.toList = [] := List.eq_nil_of_length_eq_zero (by simpa using h2)
      rw [this]; rfl
    · cases hr : rdT s with
      | none => rw [hr] at h; injection h with _ h; cases h
      | some l =>
        rw [hr] at h
        injection h with h _
        subst h
        obtain ⟨os, h1, h2, h3⟩ := rdW_inv _ _ _ hr
        refine ⟨?_, fun z hz => ?_⟩
        · rw [h2, txL10_fl os h1, ← h3, pcs_data, jnW_split]
        · rw [h2] at hz
          unfold fl at hz
          obtain ⟨y, hy, hz⟩ := List.mem_flatMap.1 hz
          obtain ⟨q1, _, q3⟩ := h1 y hy
          rcases List.mem_cons.1 hz with rfl | hz
          · exact q1
          · exact q3 z hz
theorem paT_len {s : ByteArray} : (paT s).1.length ≤ s.size + 1 := by
  unfold paT
  split
  · simp
  · split
    · simp
    · cases hr : rdT s with
      | none => simp
      | some l =>
        simp only
        have hgen : ∀ n ws L, rdW n ws = some L → L.length ≤ wsM ws := by
          intro n
          induction n with
          | zero =>
            intro ws L h
            cases ws with
            | nil => simp [rdW] at h; subst h; simp
            | cons x r => cases h
          | succ n ih =>
            intro ws L h
            cases ws with
            | nil => simp [rdW] at h; subst h; simp
            | cons x r =>
              cases hp : prOp (x :: r) with
              | none => rw [rdW_none hp] at h; cases h
              | some bt =>
                obtain ⟨b, t⟩ := bt
                rw [rdW_some hp] at h
                obtain ⟨p1, _⟩ := prOp_len hp
                cases hr2 : rdW n t with
                | none => rw [hr2] at h; cases h
                | some L2 =>
                  rw [hr2] at h
                  injection h with h
                  have := ih t L2 hr2
                  rw [← h, List.length_append]
                  omega
        have h1 := hgen _ _ _ hr
        have h2 := wsM_pcs 32 s.size s (Nat.le_refl _)
        omega
/-! The text of code, read. -/
theorem paD_len (l : List Nat) : (paD l).length = pos l (opsN l) := by unfold paD; simp
theorem pos_end (l : List Nat) : l.length ≤ pos l (opsN l) ∧ pos l (opsN l) ≤ l.length + 32 := by
  have h := opsN_spec l
  refine ⟨h.1, ?_⟩
  cases hN : opsN l with
  | zero => show 0 ≤ _; omega
  | succ N =>
    have h2 := h.2.2 N (by omega)
    have h3 := szO_le (l.getD (pos l N) 0)
    show nxt l (pos l N) ≤ _
    unfold nxt
    omega
theorem paD_take (l : List Nat) : (paD l).take l.length = l := by
  apply List.ext_getElem?
  intro i
  have h := (pos_end l).1
  by_cases hi : i < l.length
  · rw [List.getElem?_take_of_lt hi]
    unfold paD
    rw [List.getElem?_map, List.getElem?_range (by omega), List.getElem?_eq_getElem hi]
    simp only [Option.map_some]
    rw [List.getD_eq_getElem?_getD, List.getElem?_eq_getElem hi]; rfl
  · rw [List.getElem?_eq_none (by simp; omega), List.getElem?_eq_none (by omega)]
theorem paD_zero (l : List Nat) {i : Nat} (h : l.length ≤ i) (h2 : i < (paD l).length) : (paD l)[i]? = some 0 := by
  rw [paD_len] at h2
  unfold paD
  rw [List.getElem?_map, List.getElem?_range h2]
  simp only [Option.map_some]
  rw [List.getD_eq_getElem?_getD, List.getElem?_eq_none h]; rfl
theorem paD_lt {l : List Nat} (h : ∀ x ∈ l, x < 256) : ∀ x ∈ paD l, x < 256 := by
  intro x hx
  unfold paD at hx
  obtain ⟨i, _, rfl⟩ := List.mem_map.1 hx
  rw [List.getD_eq_getElem?_getD]
  cases h2 : l[i]? with
  | none => simp
  | some y => exact h y (List.mem_of_getElem? h2)
theorem text_paD {l : List Nat} (h : ∀ x ∈ l, x < 256) : txL10 (paD l) = txL10 l := by
  rw [← fl_osL, txL10_fl _ (osL_ok h), txL10_words]
theorem paT_text {l : List Nat} (h : ∀ x ∈ l, x < 256) (hl : l.length ≤ 700) : paT (bA (txL10 l)) = (paD l, 0) := by
  have hs : (bA (txL10 l)).size = (txL10 l).length := by simp [bA, ByteArray.size]
  have hk := txK_len h (opsN l)
  have hN := (opsN_spec l).2.1
  have hlen : (txL10 l).length ≤ 82 * opsN l := hk
  unfold paT
  rw [if_neg (by omega)]
  by_cases h0 : l = []
  · subst h0
    rw [if_pos (by rw [hs]; rfl)]
    rfl
  · have hne : osL l ≠ [] := by
      intro e
      have := congrArg List.length e
      unfold osL osK at this
      simp at this
      have h3 := (opsN_spec l).1
      rw [this] at h3
      have : pos l 0 = 0 := rfl
      exact h0 (List.eq_nil_of_length_eq_zero (by omega))
    have hr := rdT_words _ (osL_ok h) hne
    rw [← txL10_words, fl_osL] at hr
    rw [if_neg, hr]
    intro hz
    have he : bA (txL10 l) = ⟨#[]⟩ := by
      rw [hs] at hz
      rw [List.eq_nil_of_length_eq_zero hz]; rfl
    rw [he] at hr
    have : rdT ⟨#[]⟩ = none := by decide +kernel
    rw [this] at hr
    cases hr
end Go.Proofs.YtcdmaapjcckbmaaDoor

/- code: the reference: Marks, In. -/
namespace Go.Proofs.YtcdmaapjcckbmaaDoor
open Go.RowKit Go.Shelf

theorem owI_at {X : World} {base c k x : Nat} {y : Option Addr} {L : List Nat} (h : OwI X base (.slice y L.length c) L) (hk : L[k]? = some x) : ∃ g, y = some ⟨g, 0, none⟩ ∧ base ≤ g ∧ g < X.heap.size ∧ X.cell? ⟨g, k, none⟩ = some (.int .i64 (x : Nat)) := by
  have hkl : k < L.length := (List.getElem?_eq_some_iff.1 hk).1
  obtain ⟨g, c2, hv⟩ := Go.Joins.ownsRow_form h (by omega)
  injection hv with hy hn hc
  subst hy
  have hlt := World.ownsRow.lt h g rfl
  refine ⟨g, rfl, hlt.1, hlt.2, ?_⟩
  have := World.ownsRow.cellAt h k (by omega)
  rw [this]
  simp [ivs, hk]
theorem plL_at {l : List Nat} {k : Nat} (h : k < opsN l) : (plL l)[k]? = some (pos l k) := by
  unfold plL
  rw [List.getElem?_map, List.getElem?_range h]
  rfl
theorem plL_len (l : List Nat) : (plL l).length = opsN l := by simp [plL]
set_option maxRecDepth 100000 in
set_option maxHeartbeats 4000000 in
theorem rmarks_any (B : Nat) (v : Value) (l : List Nat) (hl : l.length ≤ 1000) (w : World) (hB : B ≤ w.heap.size) (hv : Bto B w v l) : Calls Tryd.prog 17 #[v] w fun e w' => ∃ y c, e = .returned (.slice y (mkL l).length c) ∧ OwI w' w.heap.size (.slice y (mkL l).length c) (mkL l) ∧ Below w.heap.size w w' := by
  have HR := Lib.hid (rops_any B v l hl w hB hv)
  obtain ⟨x0, c0, rfl⟩ : ∃ x0 c0, v = .slice x0 l.length c0 := by obtain ⟨_, x, c, h, _⟩ := hv; exact ⟨x, c, h⟩
  have HV := Lib.hid hv
  have HL := Lib.hid (And.intro hl hB)
  clear hv hl hB
  go_enter Tryd.func17, Tryd.ntmps17
  go_wp2_with (first
    | (go_at_call 14; refine (HR.out).mono ?_; rintro e w1 ⟨yL, cL, rfl, hL, h1⟩)
    | fail)
  have HM := Lib.hid (And.intro hL (And.intro h1 (And.intro (HV.out.kept h1.size (fun b _ h2 => h1.block b h2)) (Nat.le_trans HL.out.2 h1.size))))
  have hw1 := h1.size
  clear hL h1 HR
  rw [plL_len] at HM ⊢
  go_loopg [3, 5] (opsN l) (fun g t3 t5 wr => ∃ k y c, g + k = opsN l ∧ t3 = .slice y (mkK l k).length c ∧ t5 = .int .i64 (k : Nat) ∧ OwI wr w1.heap.size (.slice y (mkK l k).length c) (mkK l k) ∧ Below w1.heap.size w1 wr)
  case atStart => exact ⟨0, none, 0, rfl, rfl, rfl, World.ownsRow_nil _ _ _ _, Below.refl _ _⟩
  case round =>
    obtain ⟨k, y, c, hk, rfl, rfl, hO, hW⟩ := hrel
    by_cases hlt : k < opsN l
    · have hkI : (k : Int) < (opsN l : Int) := by omega
      have hpl := opsN_lt.1 hlt
      have hkn : k < 1000 := by have := (opsN_spec l).2.1; have := HL.out.1; omega
      obtain ⟨gL, hyL, hgb, hgl, hcL⟩ := owI_at (L := plL l) (k := k) (by rw [plL_len]; exact HM.out.1) (plL_at hlt)
      obtain ⟨_, x, c', hx, h3, h4, h5⟩ := HM.out.2.2.1
      obtain ⟨b, o, e, hbB, hbX, hc⟩ := h5 (by intro e; rw [e] at hpl; simp at hpl)
      injection hx with hx1 hx2 hx3
      subst hx1
      subst hx3
      subst e
      subst hyL
      have cL1 : wr.cell? ⟨gL, k, none⟩ = some (.int .i64 (pos l k : Nat)) := (cell_heap (p := ⟨gL, k, none⟩) (hW.block gL hgl)).trans hcL
      have cb : wr.cell? ⟨b, o + pos l k, none⟩ = some (.int .u8 (opB l k : Nat)) := (cell_heap (p := ⟨b, o + pos l k, none⟩) (hW.block b hbX)).trans (hc _ _ (opB_at hpl))
      have hpI : (pos l k : Int) < (l.length : Int) := by omega
      have hp0 : (0 : Int) ≤ (pos l k : Int) := by omega
      have hk0 : (0 : Int) ≤ (k : Int) := by omega
      have g1 : IntKind.i64.wrap ((k : Int) + 1) = ((k + 1 : Nat) : Int) := by rw [IntWalk.i64_in _ (by omega)]; omega
      have hwr := hW.size
      clear h3 h4 h5 hc hcL hgb hgl hbB hbX hx2 hpl
      by_cases hq : opB l k = 91
      · have hqI : ((opB l k : Int) == 91) = true := by rw [hq]; rfl
        have hml := mkK_len l k
        obtain ⟨y2, c2, w2, hrun, hO2, hG2⟩ := app_int wr w1.heap.size _ (mkK l k) (pos l k) 33 hO hwr (by omega)
        rw [← mkK_hit l k hq] at hrun hO2
        have hB2 : Below w1.heap.size (wr.alloc (.cells #[.int .i64 (pos l k : Nat)] 3)) w2 := grown_own hG2 (fun q e => (World.ownsRow.lt hO q e).1) (by rw [World.size_alloc]; omega)
        have hW2 := (balloc hW (.cells #[.int .i64 (pos l k : Nat)] 3)).trans hB2
        have HE := Lib.hid (And.intro hO2 (And.intro hW2 (And.intro hk hlt)))
        clear hO hW hml hG2 hB2 hO2 hW2 hk hlt hq hwr hkn
        generalize (mkK l k).length = m0 at *
        generalize hm1 : (mkK l (k + 1)).length = m1 at *
        go_wp2_with (first
          | (at_builtin; refine wpList_plain rfl fun K hK => ?_; refine wp_app_run (.tmp 22) (.tmp 27) 33 rfl rfl rfl hrun ?_; refine hK _ _ ?_; clear hK K)
          | fail)
        go_roundg (gk - 1)
        case measure => have := HE.out.2.2; omega
        case rel => exact ⟨k + 1, y2, c2, by have := HE.out.2.2; omega, by rw [hm1], rfl, by rw [hm1]; exact HE.out.1, HE.out.2.1⟩
      · have hqI : ((opB l k : Int) == 91) = false := by rw [beq_eq_false_iff_ne]; omega
        rw [← mkK_miss l k hq] at hO
        have hmm := mkK_miss l k hq
        have HE := Lib.hid (And.intro hO (And.intro hW (And.intro hk hlt)))
        rw [← hmm]
        clear hO hW hk hlt hq hwr hkn hmm
        generalize hm1 : (mkK l (k + 1)).length = m1 at *
        go_wp2_with fail
        go_roundg (gk - 1)
        case measure => have := HE.out.2.2; omega
        case rel => exact ⟨k + 1, y, c, by have := HE.out.2.2; omega, by rw [hm1], rfl, by rw [hm1]; exact HE.out.1, HE.out.2.1⟩
    · obtain rfl : k = opsN l := by omega
      have hkI : ¬ (opsN l : Int) < (opsN l : Int) := by omega
      have HE := Lib.hid (And.intro (hO.mono hw1) ((HM.out.2.1).trans (hW.mono hw1)))
      clear hO hW hlt hk
      go_wp2_with fail
      go_ret
      exact ⟨y, c, rfl, HE.out⟩
end Go.Proofs.YtcdmaapjcckbmaaDoor

/- code: the reference: In. -/
namespace Go.Proofs.YtcdmaapjcckbmaaDoor
open Go.RowKit Go.Shelf

set_option maxRecDepth 100000 in
set_option maxHeartbeats 2000000 in
theorem rin_any (base : Nat) (y : Option Addr) (c : Nat) (L : List Nat) (n : Nat) (hn : L.length ≤ 100000) (w : World) (h : OwI w base (.slice y L.length c) L) : Calls Tryd.prog 44 #[.slice y L.length c, .int .i64 (n : Nat)] w fun e w' => e = .returned (.bool (decide (n ∈ L))) ∧ w = w' := by
  have HO := Lib.hid (And.intro h hn)
  clear h hn
  obtain ⟨N, hN⟩ : ∃ N, L.length = N := ⟨_, rfl⟩
  have HN := Lib.hid hN
  rw [hN]
  clear hN
  go_enter Tryd.func44, Tryd.ntmps44
  go_wp2_with fail
  go_loopw [5] (fun t5 wr => ∃ k : Nat, k ≤ N ∧ t5 = .int .i64 (k : Nat) ∧ (∀ j, j < k → L[j]? ≠ some n) ∧ w = wr) (fun t5 _ => ((N : Int) - intOf t5).toNat)
  case atStart => exact ⟨0, Nat.zero_le _, rfl, fun j hj => by omega, rfl⟩
  case round =>
    obtain ⟨k, hk, rfl, hm, rfl⟩ := hrel
    by_cases hlt : k < N
    · have hkI : (k : Int) < (N : Int) := by omega
      have hk0 : (0 : Int) ≤ (k : Int) := by omega
      have g1 : IntKind.i64.wrap ((k : Int) + 1) = ((k + 1 : Nat) : Int) := by rw [IntWalk.i64_in _ (by have := HO.out.2; have := HN.out; omega)]; omega
      obtain ⟨x, hx⟩ : ∃ x, L[k]? = some x := ⟨_, List.getElem?_eq_getElem (by have := HN.out; omega)⟩
      obtain ⟨g, rfl, _, _, hc⟩ := owI_at HO.out.1 hx
      by_cases e : x = n
      · subst e
        have hq : ((x : Int) == (x : Int)) = true := by simp
        have hin : decide (x ∈ L) = true := by rw [decide_eq_true_iff]; exact List.mem_of_getElem? hx
        have HI := Lib.hid hin
        clear hin hm hx
        go_wp2_with fail
        go_ret
        exact ⟨congrArg (fun b => Ending.returned (.bool b)) HI.out.symm, rfl⟩
      · have hq : ((x : Int) == (n : Int)) = false := by rw [beq_eq_false_iff_ne]; omega
        have HM := Lib.hid (show ∀ j, j < k + 1 → L[j]? ≠ some n from fun j hj => by
          by_cases h2 : j < k
          · exact hm j h2
          · obtain rfl : j = k := by omega
            rw [hx]
            intro h3
            injection h3 with h3
            exact e h3)
        clear hm hx e
        go_wp2_with fail
        exact ⟨⟨k + 1, by omega, by go_num, HM.out, trivial⟩, by simp [intOf]; omega⟩
    · obtain rfl : k = N := by omega
      have hkI : ¬ (k : Int) < (k : Int) := by omega
      have hin : decide (n ∈ L) = false := by
        rw [decide_eq_false_iff_not]
        intro hmem
        obtain ⟨j, hj⟩ := List.getElem?_of_mem hmem
        have := (List.getElem?_eq_some_iff.1 hj).1
        exact hm j (by have := HN.out; omega) hj
      have HI := Lib.hid hin
      clear hin hm
      go_wp2_with fail
      go_ret
      exact ⟨congrArg (fun b => Ending.returned (.bool b)) HI.out.symm, rfl⟩
end Go.Proofs.YtcdmaapjcckbmaaDoor

/- code: the reference: Mark. -/
namespace Go.Proofs.YtcdmaapjcckbmaaDoor
open Go.RowKit Go.Shelf

theorem pos_inj {l : List Nat} {i j : Nat} (h : pos l i = pos l j) : i = j := by
  rcases Nat.lt_trichotomy i j with h2 | h2 | h2
  · have := pos_mono l h2; omega
  · exact h2
  · have := pos_mono l h2; omega
theorem mem_mkL (l : List Nat) (q : Nat) : decide (q ∈ mkL l) = mkS l (q : Nat) := by
  rw [Bool.eq_iff_iff, decide_eq_true_iff]
  have hin : q ∈ mkL l ↔ ∃ k, k < opsN l ∧ opB l k = 91 ∧ pos l k = q := by
    unfold mkL mkK
    rw [List.mem_map]
    constructor
    · rintro ⟨k, hk, e⟩
      obtain ⟨h1, h2⟩ := List.mem_filter.1 hk
      exact ⟨k, List.mem_range.1 h1, by simpa using h2, e⟩
    · rintro ⟨k, h1, h2, e⟩
      exact ⟨k, List.mem_filter.2 ⟨List.mem_range.2 h1, by simpa using h2⟩, e⟩
  rw [hin]
  unfold mkS oaS oaB
  cases h : opI l (q : Nat) with
  | none =>
    simp only [Option.isSome_none, Bool.false_and, Bool.false_eq_true, iff_false]
    rintro ⟨k, h1, _, e⟩
    unfold opI at h
    rw [List.find?_eq_none] at h
    have := h k (List.mem_range.2 h1)
    simp [e] at this
  | some k =>
    obtain ⟨h1, h2⟩ := opI_some h
    simp only [Option.isSome_some, Bool.true_and, decide_eq_true_iff]
    constructor
    · rintro ⟨j, _, h4, e⟩
      have : pos l j = pos l k := by omega
      rw [← pos_inj this]
      exact h4
    · intro h4
      exact ⟨k, h1, h4, by omega⟩
set_option maxRecDepth 100000 in
set_option maxHeartbeats 4000000 in
theorem rmark_any (B : Nat) (v : Value) (l : List Nat) (hl : l.length ≤ 1000) (a : Nat) (w : World) (hB : B ≤ w.heap.size) (hv : Bto B w v l) : Calls Tryd.prog 22 #[v, W a] w fun e w' => e = .returned (.bool (mkB l a)) ∧ Below w.heap.size w w' := by
  have HM := Lib.hid (rsmall_any a)
  obtain ⟨x0, c0, rfl⟩ : ∃ x0 c0, v = .slice x0 l.length c0 := by obtain ⟨_, x, c, h, _⟩ := hv; exact ⟨x, c, h⟩
  have hs0 := smV_le a
  have hW := balloc (Below.refl w.heap.size w) (.cells (Wc a) 40)
  have hv2 := hv.new hW
  have gl : IntKind.u64.wrap (l.length : Int) = (l.length : Int) := IntWalk.u64_in _ (by omega)
  have HV := Lib.hid (And.intro hv2 (And.intro hW hB))
  have HL := Lib.hid hl
  cases hb : smB a with
  | false =>
    rw [show mkB l a = false by unfold mkB; rw [hb]; rfl]
    rw [hb] at HM
    clear hv hv2 hW hB hl
    generalize l.length = n at *
    go_enter Tryd.func22, Tryd.ntmps22
    go_wp2_with (first
      | (go_at_call 47; refine (HM.out _).mono ?_; rintro e w1 ⟨rfl, hw⟩; have H1 := Lib.hid hw; clear hw)
      | fail)
    go_ret
    exact ⟨rfl, bstep HV.out.2.1 H1.out⟩
  | true =>
    rw [hb] at HM
    by_cases hf : (l.length : Int) ≤ smV a
    · rw [show mkB l a = false by unfold mkB; rw [mkS_far hf]; simp]
      clear hv hv2 hW hB hl hb
      generalize smV a = s at *
      generalize l.length = n at *
      have hf2 : ¬ s < (n : Int) := by omega
      go_enter Tryd.func22, Tryd.ntmps22
      go_wp2_with (first
        | (go_at_call 47; refine (HM.out _).mono ?_; rintro e w1 ⟨rfl, hw⟩; have H1 := Lib.hid hw; clear hw)
        | fail)
      go_ret
      exact ⟨rfl, bstep HV.out.2.1 H1.out⟩
    · have hq : ∃ q : Nat, smV a = (q : Nat) := ⟨(smV a).toNat, by omega⟩
      obtain ⟨q, hq⟩ := hq
      rw [show mkB l a = mkS l (smV a) by unfold mkB; rw [hb]; rfl, hq, ← mem_mkL]
      rw [hq] at HM hf hs0
      have g1 : IntKind.i64.wrap (q : Int) = (q : Int) := IntWalk.i64_in _ (by omega)
      have hf2 : (q : Int) < (l.length : Int) := by omega
      have HR := Lib.hid (fun (X : World) h1 h2 => rmarks_any B (.slice x0 l.length c0) l hl X h1 h2)
      have hml := mkK_len l (opsN l)
      have hol := (opsN_spec l).2.1
      have HI := Lib.hid (fun base y c (X : World) h => rin_any base y c (mkL l) q (by show (mkK l (opsN l)).length ≤ 100000; omega) X h)
      clear hv hv2 hW hB hl hb hq hml hol
      generalize decide (q ∈ mkL l) = d at *
      generalize l.length = n at *
      go_enter Tryd.func22, Tryd.ntmps22
      go_wp2_with (first
        | (go_at_call 47; refine (HM.out _).mono ?_; rintro e w1 ⟨rfl, hw⟩; have H1 := Lib.hid hw; clear hw)
        | (go_at_call 17; refine (HR.out _ (Nat.le_trans HV.out.2.2 (Nat.le_trans HV.out.2.1.size H1.out.size)) (HV.out.1.new H1.out)).mono ?_; rintro e w2 ⟨y, c, rfl, hO, hw⟩; have H2 := Lib.hid (And.intro hO hw); clear hO hw)
        | (go_at_call 44; refine (HI.out _ _ _ _ H2.out.1).mono ?_; rintro e w3 ⟨rfl, rfl⟩)
        | fail)
      go_ret
      exact ⟨rfl, bstep (bstep HV.out.2.1 H1.out) H2.out.2⟩
end Go.Proofs.YtcdmaapjcckbmaaDoor

/- code: the reference: behind. -/
namespace Go.Proofs.YtcdmaapjcckbmaaDoor
open Go.RowKit Go.Shelf

/-- behind's row under way. -/
def bhR (l : List Nat) (p m k : Nat) : List Nat := (List.range m).map fun i => if i < k then l.getD (p + 1 + i) 0 else 0
theorem bhR_zero (l : List Nat) (p m : Nat) : bhR l p m 0 = List.replicate m 0 := by
  unfold bhR
  apply List.ext_getElem?
  intro i
  by_cases h : i < m
  · rw [List.getElem?_map, List.getElem?_range h, List.getElem?_replicate_of_lt h]; rfl
  · rw [List.getElem?_eq_none (by simp; omega), List.getElem?_eq_none (by simp; omega)]
theorem bhR_all (l : List Nat) (p m : Nat) (hm : szO (l.getD p 0) = m) : bhR l p m m = bhL l p := by
  unfold bhR bhL
  rw [hm]
  apply List.map_congr_left
  intro i hi
  rw [if_pos (List.mem_range.1 hi)]
theorem bhR_set (l : List Nat) (p m k x : Nat) (h : k < m) (hx : l.getD (p + 1 + k) 0 = x) : (bvs (bhR l p m k)).toArray.setIfInBounds k (.int .u8 (x : Nat)) = (bvs (bhR l p m (k + 1))).toArray := by
  subst hx
  apply Array.ext_getElem?
  intro j
  rw [Array.getElem?_setIfInBounds, List.getElem?_toArray, List.getElem?_toArray, bvs_get, bvs_get]
  unfold bhR
  by_cases hj : j < m
  · rw [List.getElem?_map, List.getElem?_map, List.getElem?_range hj]
    by_cases e : k = j
    · subst e
      simp [bvs, h]
    · rw [if_neg e]
      by_cases h2 : j < k
      · simp [h2, show j < k + 1 by omega]
      · simp [h2, show ¬ j < k + 1 by omega]
  · rw [if_neg (by omega), List.getElem?_eq_none (by simp; omega), List.getElem?_eq_none (by simp; omega)]
theorem bhR_miss (l : List Nat) (p m k : Nat) (hx : l.getD (p + 1 + k) 0 = 0) : bhR l p m (k + 1) = bhR l p m k := by
  unfold bhR
  apply List.map_congr_left
  intro i _
  by_cases h : i < k
  · rw [if_pos h, if_pos (by omega)]
  · by_cases e : i = k
    · subst e; rw [if_pos (by omega), if_neg h, hx]
    · rw [if_neg (by omega), if_neg h]
set_option maxRecDepth 100000 in
set_option maxHeartbeats 4000000 in
theorem rbehind_any (B : Nat) (v : Value) (l : List Nat) (p : Nat) (hl : l.length ≤ 1000) (hp : p < l.length) (w : World) (hv : Bto B w v l) : Calls Tryd.prog 46 #[v, .int .i64 p] w fun e w' => ∃ g, e = .returned (.slice (some ⟨g, 0, none⟩) (bhL l p).length (bhL l p).length) ∧ w.heap.size ≤ g ∧ Blk w' g 5 (bvs (bhL l p)).toArray ∧ Below w.heap.size w w' := by
  obtain ⟨h1, x0, c0, rfl, h3, h4, h5⟩ := hv
  obtain ⟨b, o, rfl, hbB, hbX, hc⟩ := h5 (by intro e; rw [e] at hp; simp at hp)
  have hxp : l[p]? = some (l.getD p 0) := by rw [List.getD_eq_getElem?_getD, List.getElem?_eq_getElem hp]; rfl
  have hcp := hc _ _ hxp
  have hob : l.getD p 0 < 256 := h1 _ (List.mem_of_getElem? hxp)
  have hz := oi_z ⟨l.getD p 0, hob⟩
  simp only at hz
  have HI := Lib.hid (fun w => rinfo_any (l.getD p 0) hob w)
  unfold oiC at HI
  obtain ⟨m, hm⟩ : ∃ m, szO (l.getD p 0) = m := ⟨_, rfl⟩
  rw [hz, hm] at HI
  have hm32 : m ≤ 32 := by rw [← hm]; exact szO_le _
  have hbl : (bhL l p).length = m := by rw [bhL_len, hm]
  rw [hbl]
  have hfl := fun w => field_z (.string ⟨(oi (l.getD p 0)).nm.toArray⟩) (.int .i64 (oi (l.getD p 0)).i) (.int .i64 (oi (l.getD p 0)).o) (.int .u64 (oi (l.getD p 0)).g) (.bool (oi (l.getD p 0)).q) (m : Nat) w
  have hmk := make_bytes m (by omega)
  rw [← bhR_zero l p m] at hmk
  have HC := Lib.hid hc
  have HL := Lib.hid (And.intro hl (And.intro hp (And.intro hm hm32)))
  have hpI : (p : Int) < (l.length : Int) := by omega
  have hp0 : (0 : Int) ≤ (p : Int) := by omega
  have hm0 : (0 : Int) ≤ (m : Int) := by omega
  have gp : IntKind.i64.wrap ((p : Int) + 1) = ((p + 1 : Nat) : Int) := by rw [IntWalk.i64_in _ (by omega)]; omega
  clear h1 h3 h4 h5 hc hxp hob hz hm hm32 hbl hl hp hbB
  generalize hx : l.getD p 0 = x at *
  go_enter Tryd.func46, Tryd.ntmps46
  go_wp2_with (first
    | (go_at_call 11; refine (HI.out _).mono ?_; rintro e w1 ⟨rfl, hw⟩; have H1 := Lib.hid (And.intro hw hbX); clear hw)
    | fail)
  have hW1 := H1.out.1.size
  go_loopw [6] (fun t6 wr => ∃ k : Nat, k ≤ m ∧ t6 = .int .i64 (k : Nat) ∧ Blk wr w1.heap.size 5 (bvs (bhR l p m k)).toArray ∧ Below w1.heap.size w1 wr) (fun t6 _ => ((m : Int) - intOf t6).toNat)
  case atStart => exact ⟨0, Nat.zero_le _, rfl, Blk.new w1 _ _, balloc (Below.refl _ _) _⟩
  case round =>
    obtain ⟨k, hk, rfl, hb, hW⟩ := hrel
    by_cases hlt : k < m
    · have hkI : (k : Int) < (m : Int) := by omega
      have hk0 : (0 : Int) ≤ (k : Int) := by omega
      have gk : IntKind.i64.wrap ((k : Int) + 1) = ((k + 1 : Nat) : Int) := by rw [IntWalk.i64_in _ (by have := HL.out; omega)]; omega
      have g2 : IntKind.i64.wrap ((p : Int) + 1 + (k : Int)) = ((p + 1 + k : Nat) : Int) := by rw [IntWalk.i64_in _ (by have := HL.out; omega)]; omega
      by_cases hin : p + 1 + k < l.length
      · have hnI : ((p + 1 + k : Nat) : Int) < (l.length : Int) := by omega
        have hn0 : (0 : Int) ≤ ((p + 1 + k : Nat) : Int) := by omega
        have hxk : l[p + 1 + k]? = some (l.getD (p + 1 + k) 0) := by rw [List.getD_eq_getElem?_getD, List.getElem?_eq_getElem hin]; rfl
        have hck : wr.cell? ⟨b, o + (p + 1 + k), none⟩ = some (.int .u8 (l.getD (p + 1 + k) 0 : Nat)) := (cell_heap (p := ⟨b, o + (p + 1 + k), none⟩) ((hW.block b (by have := H1.out.2; omega)).trans (H1.out.1.block b H1.out.2))).trans (HC.out _ _ hxk)
        obtain ⟨z, hz⟩ : ∃ z, l.getD (p + 1 + k) 0 = z := ⟨_, rfl⟩
        rw [hz] at hck
        have hcell : ∃ u, wr.cell? ⟨w1.heap.size, k, none⟩ = some (.int .u8 (u : Int)) := by
          have h := cell_of_row _ _ k _ _ _ hb
          rw [List.getElem?_toArray, bvs_get] at h
          refine ⟨0, ?_⟩
          rw [h]
          unfold bhR
          rw [List.getElem?_map, List.getElem?_range hlt]
          simp
        obtain ⟨u, hcell⟩ := hcell
        have hfro := frozen_of_row wr _ k _ _ hb
        have hne : ¬ b = w1.heap.size := by have := H1.out.2; omega
        have hb2 : Blk (wr.setCell ⟨w1.heap.size, k, none⟩ (.int .u8 (z : Nat))) w1.heap.size 5 (bvs (bhR l p m (k + 1))).toArray := by rw [← bhR_set l p m k z hlt hz]; exact heap_setCell_same wr _ k _ _ _ hb
        have hW2 := hW.setCell (p := ⟨w1.heap.size, k, none⟩) (Nat.le_refl _) (.int .u8 (z : Nat))
        have HE := Lib.hid (And.intro hb2 (And.intro hW2 hlt))
        clear hb hW hlt hk hb2 hW2 hin hxk hz
        go_wp2_with fail
        exact ⟨⟨k + 1, (by have := HE.out.2.2; omega), (by go_num), HE.out.1, HE.out.2.1⟩, (by have := HE.out.2.2; simp [intOf]; omega)⟩
      · have hnI : ¬ ((p + 1 + k : Nat) : Int) < (l.length : Int) := by omega
        have hxk : l.getD (p + 1 + k) 0 = 0 := by rw [List.getD_eq_getElem?_getD, List.getElem?_eq_none (by omega)]; rfl
        rw [← bhR_miss l p m k hxk] at hb
        have HE := Lib.hid (And.intro hb (And.intro hW hlt))
        clear hb hW hlt hk hxk hin
        go_wp2_with fail
        exact ⟨⟨k + 1, (by have := HE.out.2.2; omega), (by go_num), HE.out.1, HE.out.2.1⟩, (by have := HE.out.2.2; simp [intOf]; omega)⟩
    · obtain rfl : k = m := by omega
      have hkI : ¬ (k : Int) < (k : Int) := by omega
      rw [bhR_all l p k (by rw [hx]; exact HL.out.2.2.1)] at hb
      have HE := Lib.hid (And.intro hW1 (And.intro hb (H1.out.1.trans (hW.mono hW1))))
      clear hb hW hk hlt
      go_wp2_with fail
      go_ret
      exact ⟨_, rfl, HE.out⟩
end Go.Proofs.YtcdmaapjcckbmaaDoor

/- code: the reference: code's text (Text). -/
namespace Go.Proofs.YtcdmaapjcckbmaaDoor
open Go.RowKit Go.Shelf

theorem bhL_lt {l : List Nat} (h : ∀ x ∈ l, x < 256) (p : Nat) : ∀ z ∈ bhL l p, z < 256 := by
  intro z hz
  unfold bhL at hz
  obtain ⟨i, _, rfl⟩ := List.mem_map.1 hz
  rw [List.getD_eq_getElem?_getD]
  cases h2 : l[p + 1 + i]? with
  | none => simp
  | some y => exact h y (List.mem_of_getElem? h2)
theorem szO_none (n : Nat) (hn : n < 256) (h : isO n = false) : szO n = 0 := by
  have hd : ∀ k : Fin 256, isO k.val = false → szO k.val = 0 := by decide +kernel
  exact hd ⟨n, hn⟩ h
theorem pos_nil (l : List Nat) (k : Nat) : pos l k = 0 ↔ k = 0 := by
  constructor
  · intro h; have := pos_ge l k; omega
  · rintro rfl; rfl
set_option maxRecDepth 100000 in
set_option maxHeartbeats 4000000 in
theorem rtext10_any (B : Nat) (v : Value) (l : List Nat) (hl : l.length ≤ 400) (w : World) (hB : B ≤ w.heap.size) (hv : Bto B w v l) :
    Calls Tryd.prog 26 #[v] w fun e w' => e = .returned (.string ⟨(txL10 l).toArray⟩) ∧ Below w.heap.size w w' := by
  have HR := Lib.hid (rops_any B v l (by omega) w hB hv)
  obtain ⟨x0, c0, rfl⟩ : ∃ x0 c0, v = .slice x0 l.length c0 := by obtain ⟨_, x, c, h, _⟩ := hv; exact ⟨x, c, h⟩
  obtain ⟨n, hn⟩ : ∃ n, l.length = n := ⟨_, rfl⟩
  have HN := Lib.hid hn
  rw [hn] at HR hv hl ⊢
  have HV := Lib.hid hv
  have HB0 := Lib.hid hB
  clear hv hn hB
  go_enter Tryd.func26, Tryd.ntmps26
  go_wp2_with (first
    | (go_at_call 14; refine (HR.out).mono ?_; rintro e w1 ⟨y1, c1, rfl, hO, hw1⟩; have HO := Lib.hid hO; have HW1 := Lib.hid hw1; clear hO hw1)
    | fail)
  obtain ⟨M, hM⟩ : ∃ M, (plL l).length = M := ⟨_, rfl⟩
  have HM := Lib.hid hM
  rw [hM]
  clear hM HR
  go_loopw [3, 5] (fun s t wr => ∃ (k : Nat), t = .int .i64 k ∧ s = .string ⟨(txK l k).toArray⟩ ∧ k ≤ M ∧ Below w1.heap.size w1 wr) (fun _ t _ => M - (intOf t).toNat)
  case atStart => exact ⟨0, rfl, rfl, Nat.zero_le _, Below.refl _ _⟩
  case round =>
    obtain ⟨k, rfl, rfl, hk, hW⟩ := hrel
    have hMo : M = opsN l := by rw [← HM.out, plL_len]
    have hMn : M ≤ n := by have := (opsN_spec l).2.1; have := HN.out; omega
    have hkl := txK_len HV.out.1 k
    obtain ⟨S, hS⟩ : ∃ S : ByteArray, (⟨(txK l k).toArray⟩ : ByteArray) = S := ⟨_, rfl⟩
    have hSz : S.size ≤ 82 * k := by rw [← hS]; simpa [ByteArray.size] using hkl
    rw [hS]
    by_cases hlt : k < M
    · have g0 : (k : Int) < (M : Int) := by omega
      have g1 : (0 : Int) ≤ (k : Int) := by omega
      have g2 : IntKind.i64.wrap ((k : Int) + 1) = ((k + 1 : Nat) : Int) := by rw [IntWalk.i64_in _ (by omega)]; omega
      have hp0 := opsN_lt.1 (show k < opsN l by omega)
      have hO := HO.out
      obtain ⟨gr, e, hg1, hg2, cR0⟩ := owI_at hO (plL_at (show k < opsN l by omega))
      subst e
      have hvr := HV.out.new (HW1.out.trans (hW.mono HW1.out.size))
      have cR : wr.cell? ⟨gr, k, none⟩ = some (.int .i64 (pos l k : Nat)) := (cell_heap (p := ⟨gr, k, none⟩) (hW.block gr hg2)).trans cR0
      have HB2 := Lib.hid (Nat.lt_of_lt_of_le hg2 hW.size)
      obtain ⟨h1, x1, c2, e1, h3, h4, h5⟩ := hvr
      obtain ⟨b, o, e2, hb1, hb2, hc⟩ := h5 (by intro e; rw [e] at hp0; simp at hp0)
      injection e1 with e3 e4 e5
      subst e3
      subst e2
      have cO := hc _ _ (opB_at hp0)
      have hx256 := opB_lt h1 k
      have HB := Lib.hid hb2
      have hopT : opT l k = (if pos l k = 0 then [] else [32]) ++ nmB (opB l k) ++ (if szO (opB l k) = 0 then [] else 32 :: hxB (bhL l (pos l k))) := rfl
      have htx : txK l (k + 1) = txK l k ++ opT l k := rfl
      have hbl : (bhL l (pos l k)).length = szO (opB l k) := bhL_len l (pos l k)
      have hnm : nmB (opB l k) = if (oi (opB l k)).nm.isEmpty then hxB [opB l k] else (oi (opB l k)).nm := rfl
      have hnl := nm_len ⟨opB l k, hx256⟩
      simp only at hnl
      have hsz := szO_le (opB l k)
      have hnot := szO_none (opB l k) hx256
      have his : isO (opB l k) = !(oi (opB l k)).nm.isEmpty := rfl
      have HI := Lib.hid (fun w => rinfo_any (opB l k) hx256 w)
      unfold oiC at HI
      have hz := oi_z ⟨opB l k, hx256⟩
      simp only at hz
      rw [hz] at HI
      have hpk := pos_nil l k
      have hpn : pos l k < n := by have := HN.out; omega
      have hpI : (pos l k : Int) < (n : Int) := by omega
      have hpI0 : (0 : Int) ≤ (pos l k : Int) := by omega
      have hem0 := nm_toList (oi (opB l k))
      generalize (oi (opB l k)).i = xi at HI
      generalize (oi (opB l k)).o = xo at HI
      generalize (oi (opB l k)).g = xg at HI
      generalize (oi (opB l k)).q = xq at HI
      obtain ⟨Nm, hNm⟩ : ∃ Nm : ByteArray, (⟨(oi (opB l k)).nm.toArray⟩ : ByteArray) = Nm := ⟨_, rfl⟩
      have hNs : Nm.size ≤ 14 := by rw [← hNm]; simpa [ByteArray.size] using hnl
      rw [hNm] at HI hem0
      generalize (oi (opB l k)).nm = nmL at *
      generalize hx : opB l k = x at *
      generalize hp : pos l k = p at *
      generalize hm : szO x = m at *
      rw [hnm] at hopT
      have HBL := Lib.hid hbl
      have HF := Lib.hid (And.intro hopT (And.intro htx (And.intro hS hNm)))
      clear hc h1 h3 h4 h5 e4 e5 hb1 hb2 hO hg1 hg2 cR0 hopT htx hbl hnm hz hnl hx hp hm hS hNm hkl hp0 hMo hpn
      have hsz32 := Lib.hid hsz
      cases hem : nmL.isEmpty with
      | true =>
        have hem1 := hem
        rw [hem] at hem0
        clear hem
        have hem := hem0
        have hm0 : m = 0 := hnot (by rw [his, hem1]; rfl)
        by_cases hk0 : k = 0
        · have q0 : ¬ (0 : Int) < (k : Int) := by omega
          have q1 : (Nm.toList == []) = true := hem
          have HK := Lib.hid (And.intro hk0 (And.intro hm0 (And.intro hem1 (And.intro hpk hsz))))
          clear hk0 hm0 hem1 hpk hem hem0 hnot his hsz
          go_upto_region 9 with (first
            | (go_at_call 11; refine (HI.out _).mono ?_; rintro e w2 ⟨rfl, h2⟩; have H2 := Lib.hid h2; clear h2)
            | fail)
          obtain ⟨V, hV⟩ : ∃ V, w2.alloc (.cells #[.string Nm, .int .i64 (xi : Nat), .int .i64 (xo : Nat), .int .u64 (xg : Nat), .bool xq, .int .i64 (m : Nat)] 25) = V := ⟨_, rfl⟩
          have kB : Blk V w2.heap.size 25 #[.string Nm, .int .i64 (xi : Nat), .int .i64 (xo : Nat), .int .u64 (xg : Nat), .bool xq, .int .i64 (m : Nat)] := by rw [← hV]; exact Blk.new w2 _ _
          have hrV : Below wr.heap.size wr V := by rw [← hV]; exact balloc H2.out _
          rw [hV]
          have kI : V.cell? ⟨w2.heap.size, 0, none⟩ = some (.string Nm) := cell_of_row _ _ 0 _ _ _ kB
          have kZ : V.cell? ⟨w2.heap.size, 5, none⟩ = some (.int .i64 (m : Nat)) := cell_of_row _ _ 5 _ _ _ kB
          have cO2 : V.cell? ⟨b, o + p, none⟩ = some (.int .u8 (x : Nat)) := (cell_heap (p := ⟨b, o + p, none⟩) (hrV.block b HB.out)).trans cO
          have cR2 : V.cell? ⟨gr, k, none⟩ = some (.int .i64 (p : Nat)) := (cell_heap (p := ⟨gr, k, none⟩) (hrV.block gr HB2.out)).trans cR
          have hWV := Lib.hid (hW.trans (hrV.mono hW.size))
          have hvV := Lib.hid ((HV.out.new (HW1.out.trans (hW.mono HW1.out.size))).new hrV)
          clear hV kB hrV H2 HB HB2 cO cR hW
          have HX := Lib.hid (rhex_any _ (.slice (some ⟨V.heap.size, 0, none⟩) 1 1) [x] (by simp) (V.alloc (.cells #[.int .u8 (x : Nat)] 5)) (Bto.of_blk (l := [x]) (Blk.new V 5 #[.int .u8 (x : Nat)]) (fun z hz => (by simp at hz; subst hz; exact hx256)) (by simp)))
          go_wp2_with (first
            | (go_at_call 54; refine (HX.out).mono ?_; rintro e w3 ⟨rfl, h3⟩; have H3 := Lib.hid h3; clear h3)
            | fail)
          all_goals
            have hb1 : (hxB [x]).length = 4 := hxB_len [x]
            have hb2 : (hxB (bhL l p)).length ≤ 66 := by rw [hxB_len, HBL.out]; have := HK.out.2.2.2.2; omega
            first
              | (exfalso; omega)
              | (refine ⟨⟨k + 1, by go_num, congrArg Value.string ?_, by omega, (hWV.out.trans (((balloc (Below.refl _ _) _).trans (H3.out.mono (by simp))).mono hWV.out.size))⟩, by simp [intOf]; omega⟩
                 obtain ⟨e1, e2, e3, e4⟩ := HF.out
                 obtain ⟨f1, f2, f3, f4, _⟩ := HK.out
                 rw [e2, e1, ← e3, f3, if_pos (f4.2 f1), if_pos rfl, if_pos f2]
                 apply ByteArray.ext
                 simp)
        · have q0 : (0 : Int) < (k : Int) := by omega
          have q1 : (Nm.toList == []) = true := hem
          have HK := Lib.hid (And.intro hk0 (And.intro hm0 (And.intro hem1 (And.intro hpk hsz))))
          clear hk0 hm0 hem1 hpk hem hem0 hnot his hsz
          go_upto_region 9 with (first
            | (go_at_call 11; refine (HI.out _).mono ?_; rintro e w2 ⟨rfl, h2⟩; have H2 := Lib.hid h2; clear h2)
            | fail)
          obtain ⟨V, hV⟩ : ∃ V, w2.alloc (.cells #[.string Nm, .int .i64 (xi : Nat), .int .i64 (xo : Nat), .int .u64 (xg : Nat), .bool xq, .int .i64 (m : Nat)] 25) = V := ⟨_, rfl⟩
          have kB : Blk V w2.heap.size 25 #[.string Nm, .int .i64 (xi : Nat), .int .i64 (xo : Nat), .int .u64 (xg : Nat), .bool xq, .int .i64 (m : Nat)] := by rw [← hV]; exact Blk.new w2 _ _
          have hrV : Below wr.heap.size wr V := by rw [← hV]; exact balloc H2.out _
          rw [hV]
          have kI : V.cell? ⟨w2.heap.size, 0, none⟩ = some (.string Nm) := cell_of_row _ _ 0 _ _ _ kB
          have kZ : V.cell? ⟨w2.heap.size, 5, none⟩ = some (.int .i64 (m : Nat)) := cell_of_row _ _ 5 _ _ _ kB
          have cO2 : V.cell? ⟨b, o + p, none⟩ = some (.int .u8 (x : Nat)) := (cell_heap (p := ⟨b, o + p, none⟩) (hrV.block b HB.out)).trans cO
          have cR2 : V.cell? ⟨gr, k, none⟩ = some (.int .i64 (p : Nat)) := (cell_heap (p := ⟨gr, k, none⟩) (hrV.block gr HB2.out)).trans cR
          have hWV := Lib.hid (hW.trans (hrV.mono hW.size))
          have hvV := Lib.hid ((HV.out.new (HW1.out.trans (hW.mono HW1.out.size))).new hrV)
          clear hV kB hrV H2 HB HB2 cO cR hW
          have HX := Lib.hid (rhex_any _ (.slice (some ⟨V.heap.size, 0, none⟩) 1 1) [x] (by simp) (V.alloc (.cells #[.int .u8 (x : Nat)] 5)) (Bto.of_blk (l := [x]) (Blk.new V 5 #[.int .u8 (x : Nat)]) (fun z hz => (by simp at hz; subst hz; exact hx256)) (by simp)))
          go_wp2_with (first
            | (go_at_call 54; refine (HX.out).mono ?_; rintro e w3 ⟨rfl, h3⟩; have H3 := Lib.hid h3; clear h3)
            | fail)
          all_goals
            have hb1 : (hxB [x]).length = 4 := hxB_len [x]
            have hb2 : (hxB (bhL l p)).length ≤ 66 := by rw [hxB_len, HBL.out]; have := HK.out.2.2.2.2; omega
            first
              | (exfalso; omega)
              | (refine ⟨⟨k + 1, by go_num, congrArg Value.string ?_, by omega, (hWV.out.trans (((balloc (Below.refl _ _) _).trans (H3.out.mono (by simp))).mono hWV.out.size))⟩, by simp [intOf]; omega⟩
                 obtain ⟨e1, e2, e3, e4⟩ := HF.out
                 obtain ⟨f1, f2, f3, f4, _⟩ := HK.out
                 rw [e2, e1, ← e3, f3, if_neg (fun h => f1 (f4.1 h)), if_pos rfl, if_pos f2]
                 apply ByteArray.ext
                 simp)
      | false =>
        have hem1 := hem
        rw [hem] at hem0
        clear hem
        have hem := hem0
        by_cases hm0 : m = 0
        · by_cases hk0 : k = 0
          · have q0 : ¬ (0 : Int) < (k : Int) := by omega
            have q1 : (Nm.toList == []) = false := hem
            have q2 : ¬ (0 : Int) < (m : Int) := by omega
            have HK := Lib.hid (And.intro hk0 (And.intro hm0 (And.intro hem1 (And.intro hpk hsz))))
            clear hk0 hm0 hem1 hpk hem hem0 hnot his hsz
            go_upto_region 9 with (first
              | (go_at_call 11; refine (HI.out _).mono ?_; rintro e w2 ⟨rfl, h2⟩; have H2 := Lib.hid h2; clear h2)
              | fail)
            obtain ⟨V, hV⟩ : ∃ V, w2.alloc (.cells #[.string Nm, .int .i64 (xi : Nat), .int .i64 (xo : Nat), .int .u64 (xg : Nat), .bool xq, .int .i64 (m : Nat)] 25) = V := ⟨_, rfl⟩
            have kB : Blk V w2.heap.size 25 #[.string Nm, .int .i64 (xi : Nat), .int .i64 (xo : Nat), .int .u64 (xg : Nat), .bool xq, .int .i64 (m : Nat)] := by rw [← hV]; exact Blk.new w2 _ _
            have hrV : Below wr.heap.size wr V := by rw [← hV]; exact balloc H2.out _
            rw [hV]
            have kI : V.cell? ⟨w2.heap.size, 0, none⟩ = some (.string Nm) := cell_of_row _ _ 0 _ _ _ kB
            have kZ : V.cell? ⟨w2.heap.size, 5, none⟩ = some (.int .i64 (m : Nat)) := cell_of_row _ _ 5 _ _ _ kB
            have cO2 : V.cell? ⟨b, o + p, none⟩ = some (.int .u8 (x : Nat)) := (cell_heap (p := ⟨b, o + p, none⟩) (hrV.block b HB.out)).trans cO
            have cR2 : V.cell? ⟨gr, k, none⟩ = some (.int .i64 (p : Nat)) := (cell_heap (p := ⟨gr, k, none⟩) (hrV.block gr HB2.out)).trans cR
            have hWV := Lib.hid (hW.trans (hrV.mono hW.size))
            have hvV := Lib.hid ((HV.out.new (HW1.out.trans (hW.mono HW1.out.size))).new hrV)
            clear hV kB hrV H2 HB HB2 cO cR hW
            go_wp2_with fail
            all_goals
              have hb1 : (hxB [x]).length = 4 := hxB_len [x]
              have hb2 : (hxB (bhL l p)).length ≤ 66 := by rw [hxB_len, HBL.out]; have := HK.out.2.2.2.2; omega
              first
                | (exfalso; omega)
                | (refine ⟨⟨k + 1, by go_num, congrArg Value.string ?_, by omega, hWV.out⟩, by simp [intOf]; omega⟩
                   obtain ⟨e1, e2, e3, e4⟩ := HF.out
                   obtain ⟨f1, f2, f3, f4, _⟩ := HK.out
                   rw [e2, e1, ← e3, ← e4, f3, if_pos (f4.2 f1), if_neg (by simp), if_pos f2]
                   apply ByteArray.ext
                   simp)
          · have q0 : (0 : Int) < (k : Int) := by omega
            have q1 : (Nm.toList == []) = false := hem
            have q2 : ¬ (0 : Int) < (m : Int) := by omega
            have HK := Lib.hid (And.intro hk0 (And.intro hm0 (And.intro hem1 (And.intro hpk hsz))))
            clear hk0 hm0 hem1 hpk hem hem0 hnot his hsz
            go_upto_region 9 with (first
              | (go_at_call 11; refine (HI.out _).mono ?_; rintro e w2 ⟨rfl, h2⟩; have H2 := Lib.hid h2; clear h2)
              | fail)
            obtain ⟨V, hV⟩ : ∃ V, w2.alloc (.cells #[.string Nm, .int .i64 (xi : Nat), .int .i64 (xo : Nat), .int .u64 (xg : Nat), .bool xq, .int .i64 (m : Nat)] 25) = V := ⟨_, rfl⟩
            have kB : Blk V w2.heap.size 25 #[.string Nm, .int .i64 (xi : Nat), .int .i64 (xo : Nat), .int .u64 (xg : Nat), .bool xq, .int .i64 (m : Nat)] := by rw [← hV]; exact Blk.new w2 _ _
            have hrV : Below wr.heap.size wr V := by rw [← hV]; exact balloc H2.out _
            rw [hV]
            have kI : V.cell? ⟨w2.heap.size, 0, none⟩ = some (.string Nm) := cell_of_row _ _ 0 _ _ _ kB
            have kZ : V.cell? ⟨w2.heap.size, 5, none⟩ = some (.int .i64 (m : Nat)) := cell_of_row _ _ 5 _ _ _ kB
            have cO2 : V.cell? ⟨b, o + p, none⟩ = some (.int .u8 (x : Nat)) := (cell_heap (p := ⟨b, o + p, none⟩) (hrV.block b HB.out)).trans cO
            have cR2 : V.cell? ⟨gr, k, none⟩ = some (.int .i64 (p : Nat)) := (cell_heap (p := ⟨gr, k, none⟩) (hrV.block gr HB2.out)).trans cR
            have hWV := Lib.hid (hW.trans (hrV.mono hW.size))
            have hvV := Lib.hid ((HV.out.new (HW1.out.trans (hW.mono HW1.out.size))).new hrV)
            clear hV kB hrV H2 HB HB2 cO cR hW
            go_wp2_with fail
            all_goals
              have hb1 : (hxB [x]).length = 4 := hxB_len [x]
              have hb2 : (hxB (bhL l p)).length ≤ 66 := by rw [hxB_len, HBL.out]; have := HK.out.2.2.2.2; omega
              first
                | (exfalso; omega)
                | (refine ⟨⟨k + 1, by go_num, congrArg Value.string ?_, by omega, hWV.out⟩, by simp [intOf]; omega⟩
                   obtain ⟨e1, e2, e3, e4⟩ := HF.out
                   obtain ⟨f1, f2, f3, f4, _⟩ := HK.out
                   rw [e2, e1, ← e3, ← e4, f3, if_neg (fun h => f1 (f4.1 h)), if_neg (by simp), if_pos f2]
                   apply ByteArray.ext
                   simp)
        · by_cases hk0 : k = 0
          · have q0 : ¬ (0 : Int) < (k : Int) := by omega
            have q1 : (Nm.toList == []) = false := hem
            have q2 : (0 : Int) < (m : Int) := by omega
            have HK := Lib.hid (And.intro hk0 (And.intro hm0 (And.intro hem1 (And.intro hpk hsz))))
            clear hk0 hm0 hem1 hpk hem hem0 hnot his hsz
            go_upto_region 9 with (first
              | (go_at_call 11; refine (HI.out _).mono ?_; rintro e w2 ⟨rfl, h2⟩; have H2 := Lib.hid h2; clear h2)
              | fail)
            obtain ⟨V, hV⟩ : ∃ V, w2.alloc (.cells #[.string Nm, .int .i64 (xi : Nat), .int .i64 (xo : Nat), .int .u64 (xg : Nat), .bool xq, .int .i64 (m : Nat)] 25) = V := ⟨_, rfl⟩
            have kB : Blk V w2.heap.size 25 #[.string Nm, .int .i64 (xi : Nat), .int .i64 (xo : Nat), .int .u64 (xg : Nat), .bool xq, .int .i64 (m : Nat)] := by rw [← hV]; exact Blk.new w2 _ _
            have hrV : Below wr.heap.size wr V := by rw [← hV]; exact balloc H2.out _
            rw [hV]
            have kI : V.cell? ⟨w2.heap.size, 0, none⟩ = some (.string Nm) := cell_of_row _ _ 0 _ _ _ kB
            have kZ : V.cell? ⟨w2.heap.size, 5, none⟩ = some (.int .i64 (m : Nat)) := cell_of_row _ _ 5 _ _ _ kB
            have cO2 : V.cell? ⟨b, o + p, none⟩ = some (.int .u8 (x : Nat)) := (cell_heap (p := ⟨b, o + p, none⟩) (hrV.block b HB.out)).trans cO
            have cR2 : V.cell? ⟨gr, k, none⟩ = some (.int .i64 (p : Nat)) := (cell_heap (p := ⟨gr, k, none⟩) (hrV.block gr HB2.out)).trans cR
            have hWV := Lib.hid (hW.trans (hrV.mono hW.size))
            have hvV := Lib.hid ((HV.out.new (HW1.out.trans (hW.mono HW1.out.size))).new hrV)
            clear hV kB hrV H2 HB HB2 cO cR hW
            have HX := Lib.hid (rbehind_any B (.slice (some ⟨b, o, none⟩) n c0) l p (by have := HN.out; omega) (by have := HN.out; omega) V hvV.out)
            go_wp2_with (first
              | (go_at_call 46; refine (HX.out).mono ?_; rintro e w3 ⟨g, rfl, hg, hb3, h3⟩; have H3 := Lib.hid (And.intro hb3 (And.intro hg h3)); clear hb3 hg h3; have HY := Lib.hid (rhex_any _ (.slice (some ⟨g, 0, none⟩) (bhL l p).length (bhL l p).length) (bhL l p) (by rw [HBL.out]; have := HK.out.2.2.2.2; omega) w3 (Bto.of_blk (l := bhL l p) H3.out.1 (bhL_lt HV.out.1 p) (by rw [HBL.out]; have := HK.out.2.2.2.2; omega))))
              | (go_at_call 54; refine (HY.out).mono ?_; rintro e w4 ⟨rfl, h4⟩; have H4 := Lib.hid h4; clear h4)
              | fail)
            all_goals
              have hb1 : (hxB [x]).length = 4 := hxB_len [x]
              have hb2 : (hxB (bhL l p)).length ≤ 66 := by rw [hxB_len, HBL.out]; have := HK.out.2.2.2.2; omega
              first
                | (exfalso; omega)
                | (refine ⟨⟨k + 1, by go_num, congrArg Value.string ?_, by omega, (hWV.out.trans ((H3.out.2.2.trans (H4.out.mono H3.out.2.2.size)).mono hWV.out.size))⟩, by simp [intOf]; omega⟩
                   obtain ⟨e1, e2, e3, e4⟩ := HF.out
                   obtain ⟨f1, f2, f3, f4, _⟩ := HK.out
                   rw [e2, e1, ← e3, ← e4, f3, if_pos (f4.2 f1), if_neg (by simp), if_neg f2]
                   apply ByteArray.ext
                   simp)
          · have q0 : (0 : Int) < (k : Int) := by omega
            have q1 : (Nm.toList == []) = false := hem
            have q2 : (0 : Int) < (m : Int) := by omega
            have HK := Lib.hid (And.intro hk0 (And.intro hm0 (And.intro hem1 (And.intro hpk hsz))))
            clear hk0 hm0 hem1 hpk hem hem0 hnot his hsz
            go_upto_region 9 with (first
              | (go_at_call 11; refine (HI.out _).mono ?_; rintro e w2 ⟨rfl, h2⟩; have H2 := Lib.hid h2; clear h2)
              | fail)
            obtain ⟨V, hV⟩ : ∃ V, w2.alloc (.cells #[.string Nm, .int .i64 (xi : Nat), .int .i64 (xo : Nat), .int .u64 (xg : Nat), .bool xq, .int .i64 (m : Nat)] 25) = V := ⟨_, rfl⟩
            have kB : Blk V w2.heap.size 25 #[.string Nm, .int .i64 (xi : Nat), .int .i64 (xo : Nat), .int .u64 (xg : Nat), .bool xq, .int .i64 (m : Nat)] := by rw [← hV]; exact Blk.new w2 _ _
            have hrV : Below wr.heap.size wr V := by rw [← hV]; exact balloc H2.out _
            rw [hV]
            have kI : V.cell? ⟨w2.heap.size, 0, none⟩ = some (.string Nm) := cell_of_row _ _ 0 _ _ _ kB
            have kZ : V.cell? ⟨w2.heap.size, 5, none⟩ = some (.int .i64 (m : Nat)) := cell_of_row _ _ 5 _ _ _ kB
            have cO2 : V.cell? ⟨b, o + p, none⟩ = some (.int .u8 (x : Nat)) := (cell_heap (p := ⟨b, o + p, none⟩) (hrV.block b HB.out)).trans cO
            have cR2 : V.cell? ⟨gr, k, none⟩ = some (.int .i64 (p : Nat)) := (cell_heap (p := ⟨gr, k, none⟩) (hrV.block gr HB2.out)).trans cR
            have hWV := Lib.hid (hW.trans (hrV.mono hW.size))
            have hvV := Lib.hid ((HV.out.new (HW1.out.trans (hW.mono HW1.out.size))).new hrV)
            clear hV kB hrV H2 HB HB2 cO cR hW
            have HX := Lib.hid (rbehind_any B (.slice (some ⟨b, o, none⟩) n c0) l p (by have := HN.out; omega) (by have := HN.out; omega) V hvV.out)
            go_wp2_with (first
              | (go_at_call 46; refine (HX.out).mono ?_; rintro e w3 ⟨g, rfl, hg, hb3, h3⟩; have H3 := Lib.hid (And.intro hb3 (And.intro hg h3)); clear hb3 hg h3; have HY := Lib.hid (rhex_any _ (.slice (some ⟨g, 0, none⟩) (bhL l p).length (bhL l p).length) (bhL l p) (by rw [HBL.out]; have := HK.out.2.2.2.2; omega) w3 (Bto.of_blk (l := bhL l p) H3.out.1 (bhL_lt HV.out.1 p) (by rw [HBL.out]; have := HK.out.2.2.2.2; omega))))
              | (go_at_call 54; refine (HY.out).mono ?_; rintro e w4 ⟨rfl, h4⟩; have H4 := Lib.hid h4; clear h4)
              | fail)
            all_goals
              have hb1 : (hxB [x]).length = 4 := hxB_len [x]
              have hb2 : (hxB (bhL l p)).length ≤ 66 := by rw [hxB_len, HBL.out]; have := HK.out.2.2.2.2; omega
              first
                | (exfalso; omega)
                | (refine ⟨⟨k + 1, by go_num, congrArg Value.string ?_, by omega, (hWV.out.trans ((H3.out.2.2.trans (H4.out.mono H3.out.2.2.size)).mono hWV.out.size))⟩, by simp [intOf]; omega⟩
                   obtain ⟨e1, e2, e3, e4⟩ := HF.out
                   obtain ⟨f1, f2, f3, f4, _⟩ := HK.out
                   rw [e2, e1, ← e3, ← e4, f3, if_neg (fun h => f1 (f4.1 h)), if_neg (by simp), if_neg f2]
                   apply ByteArray.ext
                   simp)
    · obtain rfl : k = M := by omega
      have g0 : ¬ (k : Int) < (k : Int) := by omega
      have htx : (⟨(txL10 l).toArray⟩ : ByteArray) = S := by rw [← hS]; unfold txL10; rw [hMo]
      have HE := Lib.hid (And.intro htx (HW1.out.trans (hW.mono HW1.out.size)))
      clear hW hS hlt htx hMo hMn hkl hSz hk
      go_wp2_with fail
      go_ret
      rw [HE.out.1]
      exact ⟨rfl, HE.out.2⟩

end Go.Proofs.YtcdmaapjcckbmaaDoor

/- code: CodeTexts' walk. -/
namespace Go.Proofs.YtcdmaapjcckbmaaDoor
open Go.RowKit Go.Shelf

theorem cutTo (x : Option Addr) (m k c : Nat) (hk : k ≤ c) (w : World) : (Instr.slice 32 (.slice x m c) none (some (.int .i64 (k : Nat))) none).run Tryd.prog w = .ok (.slice x k c) w := by
  have h := run_slice_h (P := Tryd.prog) (w := w) (t := 32) (a := x) (len := m) (cap := c) (ht := by kernel_rfl) .i64 (k : Int) (by omega) (by omega)
  rw [h, show Tryd.prog.elem 32 = 5 by kernel_rfl, show (sizeOf 5).run Tryd.prog w = .ok 1 w by kernel_rfl]
  simp only [Result.andThen_ok, sliced, Int.toNat_natCast, Nat.sub_zero]
  have he : (if c = 0 then x else x.map (·.add (0 * 1))) = x := by
    split
    · rfl
    · cases x with
      | none => rfl
      | some a => rfl
  rw [he]
theorem Bto.take {B : Nat} {X : World} {l : List Nat} {x : Option Addr} {c : Nat} (h : Bto B X (.slice x l.length c) l) (n : Nat) (hn : n ≤ l.length) : Bto B X (.slice x n c) (l.take n) := by
  obtain ⟨h1, y, cap, h2, h3, h4, h5⟩ := h
  cases h2
  have hln : (l.take n).length = n := by rw [List.length_take]; omega
  refine ⟨fun z hz => h1 z (List.mem_of_mem_take hz), x, c, by rw [hln], by omega, by omega, fun hl => ?_⟩
  obtain ⟨b, o, e, hb, hbx, hc⟩ := h5 (fun e => hl (by rw [e]; simp))
  refine ⟨b, o, e, hb, hbx, fun k u hu => hc k u ?_⟩
  rw [List.getElem?_take] at hu
  split at hu
  · exact hu
  · cases hu
set_option maxRecDepth 100000 in
set_option maxHeartbeats 8000000 in
theorem texts_walk10 (B : Nat) (v : Value) (l : List Nat) (w : World) (hB : B ≤ w.heap.size) (hv : Bto B w v l) : Calls Tryd.prog 6 #[v] w fun e w' => e = .returned (.bool true) ∧ Below w.heap.size w w' := by
  have HW := Lib.hid (fun w => works_any10 w)
  have h256 := hv.1
  obtain ⟨x0, c0, rfl⟩ : ∃ x0 c0, v = .slice x0 l.length c0 := by obtain ⟨_, x, c, h, _⟩ := hv; exact ⟨x, c, h⟩
  by_cases h1 : 300 < l.length
  · have h1I : (300 : Int) < (l.length : Int) := by omega
    clear h1 hv hB h256
    go_enter Tryd.func6, Tryd.ntmps6
    go_wp2_with (first
      | (go_at_call 9; refine (HW.out _).mono ?_; rintro e w1 ⟨rfl, h1⟩)
      | fail)
    go_ret
    exact ⟨rfl, h1⟩
  have h1I : ¬ (300 : Int) < (l.length : Int) := by omega
  have hl3 : l.length ≤ 300 := by omega
  obtain ⟨S, hS⟩ : ∃ S, (⟨(txL10 l).toArray⟩ : ByteArray) = S := ⟨_, rfl⟩
  have hp : paT S = (paD l, 0) := by rw [← hS]; exact paT_text h256 (by omega)
  have hss : S.size ≤ 65536 := by
    rw [← hS]
    have h := txK_len h256 (opsN l)
    have := (opsN_spec l).2.1
    have e : (⟨(txL10 l).toArray⟩ : ByteArray).size = (txK l (opsN l)).length := by simp [ByteArray.size, txL10]
    omega
  have HX := Lib.hid (text10_any B (.slice x0 l.length c0) l (by omega) w hB hv)
  have HC := Lib.hid (fun w => cparse_any S w)
  have HR := Lib.hid (fun w => rparse_any S hss w)
  have HY := Lib.hid (fun (X : World) (h : Below w.heap.size w X) => rtext10_any B (.slice x0 l.length c0) l (by omega) X (Nat.le_trans hB h.size) (hv.new h))
  have HZ := Lib.hid (fun (B2 : Nat) (u : Value) (X : World) (hB2 : B2 ≤ X.heap.size) (hu : Bto B2 X u (paD l)) => text10_any B2 u (paD l) (by rw [paD_len]; have := (pos_end l).2; omega) X hB2 hu)
  rw [text_paD h256] at HZ
  rw [hS] at HX HY HZ
  unfold RpP at HR
  rw [hp] at HC HR
  have HN := Lib.hid (fun k w => num_any10 k w)
  have hpe := pos_end l
  rw [← paD_len] at hpe
  obtain ⟨n, hn⟩ : ∃ n, l.length = n := ⟨_, rfl⟩
  obtain ⟨m, hm⟩ : ∃ m, (paD l).length = m := ⟨_, rfl⟩
  have HF := Lib.hid (And.intro hn (And.intro hm (And.intro hv (And.intro hB (And.intro (paD_take l) (And.intro (fun i (h1 : l.length ≤ i) (h2 : i < (paD l).length) => paD_zero l h1 h2) (And.intro hl3 hpe)))))))
  rw [hn, hm] at hpe
  rw [hn] at HX HY hl3 h1I ⊢
  clear hn hm hp hss hS hv hB h256 h1
  go_enter Tryd.func6, Tryd.ntmps6
  go_upto_region 6 with (first
    | (go_at_call 23; refine (HX.out).mono ?_; rintro e w1 ⟨rfl, hB1⟩; have H1 := Lib.hid hB1; clear hB1)
    | (go_at_call 24; refine (HC.out _).mono ?_; rintro e w2 ⟨⟨v1, rfl, hO1⟩, hB2⟩; have H2 := Lib.hid (And.intro hO1 hB2); clear hO1 hB2)
    | (go_at_call 25; refine (HR.out _).mono ?_; rintro e w3 ⟨⟨v2, rfl, hO2⟩, hB3⟩; have H3 := Lib.hid (And.intro hO2 hB3); clear hO2 hB3)
    | fail)
  have hO1 := H2.out.1.new H3.out.2
  have hB3 := bstep (bstep H1.out H2.out.2) H3.out.2
  have b1 := hO1.bt.bto
  have b2 := H3.out.1.bt.bto
  have b0 := HF.out.2.2.1.new hB3
  obtain ⟨y1, c1, rfl⟩ := hO1.is
  obtain ⟨hn, hm, _, hB, htk, hzr, _, hpo⟩ := HF.out
  have hcap : m ≤ c1 := by obtain ⟨_, x, c, e, h, _⟩ := b1; injection e with _ _ e3; omega
  have b3 := b1.take l.length (by omega)
  rw [htk] at b3
  skip
  rw [hm] at b1 ⊢
  rw [hn] at b0 b3
  have k0 := fun X (h : Below w3.heap.size w3 X) => conv_byteso _ _ l X (b0.new h) (by omega)
  have k1 := fun X (h : Below w3.heap.size w3 X) => conv_byteso _ _ (paD l) X (b1.new h) (by omega)
  have k2 := fun X (h : Below w3.heap.size w3 X) => conv_byteso _ v2 (paD l) X (b2.new h) (by omega)
  have k3 := fun X (h : Below w3.heap.size w3 X) => conv_byteso _ _ l X (b3.new h) (by omega)
  have k4 := fun X => cutTo y1 m n c1 (by omega) X
  have HV := Lib.hid (And.intro hO1 (And.intro hB3 (And.intro hn hm)))
  have HBt := Lib.hid b1
  have q0 : ¬ (m : Int) < (n : Int) := by omega
  have q0' : (n : Int) ≤ (m : Int) := by omega
  have q1 : ¬ (n : Int) + 32 < (m : Int) := by omega
  have q1' : (m : Int) ≤ (n : Int) + 32 := by omega
  have q2 : IntKind.i64.wrap ((n : Int) + 32) = (n : Int) + 32 := IntWalk.i64_in _ (by omega)
  have q3 : decide (m < n) = false := decide_eq_false (by omega)
  have q4 : decide (n + 32 < m) = false := decide_eq_false (by omega)
  have q5 : decide ((n : Int) + 32 < (m : Int)) = false := decide_eq_false (by omega)
  have q6 : (0 : Int) ≤ (n : Int) := by omega
  have q7 : (n : Int) ≤ (c1 : Int) := by omega
  have t0 : (S.toList == S.toList) = true := by simp
  have t1 : ((toS l).toList == (toS l).toList) = true := by simp
  have t2 : ((toS (paD l)).toList == (toS (paD l)).toList) = true := by simp
  generalize toS (paD l) = T2 at *
  generalize toS l = T1 at *
  clear hn hm hB htk hzr hpo hpe hO1 b0 b1 b2 b3 hcap
  have hS3 : Below w3.heap.size w3 w3.drew := below_drew' (Below.refl _ _)
  have HW3 := Lib.hid hB3
  clear hB3
  go_region_held3 (fun w' => Below w3.heap.size w3 w') (first | with_reducible assumption) (first
    | (go_at_call 26; refine (HY.out _ (HW3.out.trans (hS3.mono HW3.out.size))).mono ?_; rintro e w4 ⟨rfl, h4⟩; have hH : Below w3.heap.size w3 w4 := bstep hS3 h4; clear h4)
    | (go_at_call 27; refine (HN.out _ _).mono ?_; rintro e w5 ⟨rfl, rfl⟩)
    | fail)
  all_goals
    have HH := Lib.hid hH
    clear hH hS3 k0 k1 k2 k3 k4 q0 q0' q1 q1' q2 q3 q4 q5 q6 q7 t0 t1 t2
    go_upto_region 8 with fail
    go_wp2_with fail
    go_loopw [8] (fun t wr => ∃ (i : Nat), t = .int .i64 i ∧ n ≤ i ∧ i ≤ m ∧ w4 = wr) (fun t _ => m - (intOf t).toNat)
    case atStart => exact ⟨n, rfl, Nat.le_refl _, by have := HF.out; have := HV.out; omega, rfl⟩
    case round =>
      obtain ⟨i, rfl, hni, him, rfl⟩ := hrel
      by_cases hlt : i < m
      · have g0 : (i : Int) < (m : Int) := by omega
        have g1 : (0 : Int) ≤ (i : Int) := by omega
        have g2 : IntKind.i64.wrap ((i : Int) + 1) = ((i + 1 : Nat) : Int) := by rw [IntWalk.i64_in _ (by have := HF.out.2.2.2.2.2.2; have := HV.out; omega)]; omega
        have hz := HF.out.2.2.2.2.2.1 i (by have := HV.out; omega) (by have := HV.out; omega)
        obtain ⟨_, x, cp, e, _, _, hc⟩ := (HBt.out).new HH.out
        obtain ⟨b, o, e2, _, _, hc2⟩ := hc (by intro e; rw [e] at hz; simp at hz)
        injection e with e3 e4 e5
        subst e3
        subst e2
        have cZ : w4.cell? ⟨b, o + i, none⟩ = some (.int .u8 0) := hc2 i 0 hz
        clear hz hc hc2 e4 e5
        go_wp2_with fail
        exact ⟨⟨i + 1, by go_num, by omega, by omega, (by trivial)⟩, by simp [intOf]; omega⟩
      · have g0 : ¬ (i : Int) < (m : Int) := by omega
        have hX := Lib.hid (HZ.out w3.heap.size (.slice y1 m c1) w4 HH.out.size (HBt.out.new HH.out))
        have t0 : (S.toList == S.toList) = true := by simp
        clear hlt
        go_wp2_with (first
          | (go_at_call 23; refine (hX.out).mono ?_; rintro e w6 ⟨rfl, h6⟩; have H6 := Lib.hid h6; clear h6)
          | (go_at_call 9; refine (HW.out _).mono ?_; rintro e w7 ⟨rfl, h7⟩; have H7 := Lib.hid h7; clear h7)
          | fail)
        go_ret
        exact ⟨rfl, bstep (bstep (bstep HW3.out HH.out) H6.out) H7.out⟩
end Go.Proofs.YtcdmaapjcckbmaaDoor

/- code's laws: CodeTexts: the argument opened. -/
namespace Go.Proofs.YtcdmaapjcckbmaaDoor
open Go.RowKit Go.ChangeShapes Go.WideShapes Go.ChangeAt

theorem take1 {α : Type} {cs : List α} {i : Nat} {v : α} (h : (cs.drop i).take 1 = [v]) : cs[i]? = some v := by
  have := congrArg (fun l : List α => l[0]?) h
  simpa [List.getElem?_take, List.getElem?_drop] using this
section
variable {H : Type} {enc : TypeId × Value → H} {X : World} {base : Nat} {sp : Nat → Bool} {held : Bool}
set_option maxRecDepth 100000 in
theorem bytes_open {fuel : Nat} {v : Value} {y : DataW H × List MemPlace} (h : DataW.trod enc Tryd.prog X base sp held fuel 32 [v] = some y) :
    ∃ l x c, v = .slice x l.length c ∧ Bto X.heap.size X v l ∧ ∀ n c, v = .slice none n c → c = 0 := by
  have hu : Tryd.prog.underlying 32 = some (.slice 5) := by kernel_rfl
  have hc : Tryd.prog.cellsOf 5 = 1 := by kernel_rfl
  have h8 : Tryd.prog.underlying 5 = some (.int .u8) := by kernel_rfl
  rcases Go.Deep.open_slice1 hu hc h with ⟨h0, _⟩ | ⟨a, len, cap, m, n, V, D, Pl, h0, hb, hl, hm, hmm, hx, hall⟩
  · simp at h0
    subst h0
    exact ⟨[], none, 0, rfl, ⟨by simp, none, 0, rfl, Nat.le_refl _, by simp, fun h => (h rfl).elim⟩, fun n c e => by cases e; rfl⟩
  · simp at h0
    subst h0
    have hlm : len ≤ m := by rw [hmm]; split <;> omega
    have hel : ∀ i, i < len → ∃ q : Nat, q < 256 ∧ X.cell? (a.add i) = some (.int .u8 q) := fun i hi => by
      obtain ⟨h1, h2⟩ := hall i (by omega)
      obtain ⟨z, e, _, hw⟩ := DataW.trod_int h8 h2
      simp at e
      have hz := bounds_u8 hw
      obtain ⟨q, rfl⟩ := Int.eq_ofNat_of_zero_le hz.1
      exact ⟨q, by omega, by rw [h1, e]⟩
    obtain ⟨f, hF⟩ := Go.Deep.choose_lt (α := Nat) (p := fun i q => q < 256 ∧ X.cell? (a.add i) = some (.int .u8 q)) hel
    have hL : ((List.range len).map f).length = len := by simp
    refine ⟨(List.range len).map f, some a, cap, by rw [hL], ⟨fun x hx => ?_, some a, cap, by rw [hL], by rw [hL]; exact hl, by rw [hL]; unfold maxLen at hm; omega, fun hne => ?_⟩, fun n c e => by cases e⟩
    · simp only [List.mem_map, List.mem_range] at hx
      obtain ⟨i, hi, rfl⟩ := hx
      exact (hF i hi).1
    · obtain ⟨b, o, spot⟩ := a
      have h0' : 0 < len := by rw [← hL]; exact List.length_pos_iff.2 hne
      have hspot : spot = none := by simpa [Addr.add] using World.cell?_spot (hF 0 h0').2
      subst hspot
      have hlt : b < X.heap.size := by
        have := World.block_lt_of_cell? X _ (hF 0 h0').2
        simpa [add_plain] using this
      refine ⟨b, o, rfl, hlt, hlt, fun k u hu => ?_⟩
      have hk : k < len := by have := (List.getElem?_eq_some_iff.1 hu).1; rwa [hL] at this
      rw [List.getElem?_map, List.getElem?_range hk] at hu
      cases hu
      have e1 := (hF k hk).2
      rwa [add_plain] at e1
set_option maxRecDepth 100000 in
theorem arg_bytes {r : Reach} {b0 : Nat} {v : Value} {d : DataW H} {p : List MemPlace} (_hv : Value.okWide Tryd.prog X r b0 32 v) (h : DataW.Trod enc Tryd.prog X base sp held 32 v d p) : ∃ l x c, v = .slice x l.length c ∧ Bto X.heap.size X v l ∧ ∀ n c, v = .slice none n c → c = 0 := by
  obtain ⟨x0, l0, c0, rfl⟩ := okWide_slice (show Tryd.prog.underlying 32 = some (.slice 5) by kernel_rfl) _hv
  obtain ⟨fuel, hf⟩ := h
  exact bytes_open (v := .slice x0 l0 c0) hf

end
set_option maxRecDepth 100000 in
theorem texts_all10 {H : Type} {enc : TypeId × Value → H} {X : World} {base : Nat} {sp : Nat → Bool} {held : Bool} {r : Reach} {b0 : Nat} {v0 : Value} {d0 : DataW H} {p0 : List MemPlace} (hv0 : Value.okWide Tryd.prog X r b0 32 v0) (h0 : DataW.Trod enc Tryd.prog X base sp held 32 v0 d0 p0) :
    Calls Tryd.prog 6 #[v0] X fun e w' => e = .returned (.bool true) ∧ Below X.heap.size X w' := by
  obtain ⟨l, x, c, rfl, hl, _⟩ := arg_bytes hv0 h0
  exact texts_walk10 X.heap.size _ l X (Nat.le_refl _) hl
end Go.Proofs.YtcdmaapjcckbmaaDoor

