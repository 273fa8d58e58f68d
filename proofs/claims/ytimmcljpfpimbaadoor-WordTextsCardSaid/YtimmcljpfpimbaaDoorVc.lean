/- Bytes and text, there and back (WordBytes): what the calls come to. -/
import Derived.Test.YtimmcljpfpimbaaDoorVb
import Derived.Test.YtimmcljpfpimbaaDoorWq
import Derived.Deep.RegionHeld3
namespace Go.Proofs.YtimmcljpfpimbaaDoor
open Go.RowKit
attribute [local go_sem] ix0 ix1 ix2 ix3

theorem W_congr {x y : Nat} (h : x % MM = y % MM) : W x = W y := by
  unfold W; rw [lb_congr h 0 (by omega), lb_congr h 1 (by omega), lb_congr h 2 (by omega), lb_congr h 3 (by omega)]
theorem numB_by (a : Nat) : ∀ n, n ≤ 32 → numB (fun k => byA a (31 - k)) n = a / 256 ^ (32 - n) % 256 ^ n
  | 0, _ => by simp [numB, Nat.mod_one]
  | n + 1, h => by
    show numB (fun k => byA a (31 - k)) n * 256 + byA a (31 - n) = _
    rw [numB_by a n (by omega)]
    unfold byA
    have e : 32 - n = (31 - n) + 1 := by omega
    rw [show 32 - (n + 1) = 31 - n by omega, e, Nat.pow_succ, ← Nat.div_div_eq_div_mul]
    generalize a / 256 ^ (31 - n) = m
    rw [Nat.pow_succ', Nat.mod_mul]
    omega
/-- Of a word's bytes the word is read. -/
theorem read_back (a b : Nat) (w : World) (hb : Blk w b 5 (byC a 32)) :
    Calls Tryd.prog 26 #[.slice (some ⟨b, 0, none⟩) 32 32] w fun e w' => e = .returned (.tuple #[W a, .int .i64 0]) ∧ Below w.heap.size w w' := by
  have h := read_any b 0 32 32 (fun k => byA a (31 - k)) w (by omega) hb.lt (fun k hk => ⟨byA_lt _ _, (cell_of_row w b _ _ _ _ hb).trans (by rw [Nat.zero_add, byC_get _ _ _ hk, if_pos (by omega)])⟩)
  rwa [numB_by a 32 (by omega), W_congr (x := a / 256 ^ (32 - 32) % 256 ^ 32) (y := a) (by rw [Nat.sub_self, Nat.pow_zero, Nat.div_one, ← MM_256, Nat.mod_mod])] at h
/-- Of a word's text the word is read. -/
theorem dv_ok (a k : Nat) : dv (dgA a k) < 16 := by
  have h := dv_dg ⟨_, nib_lt a (63 - k)⟩
  unfold dgA; rw [h]; exact nib_lt a _
theorem txA_ok (a : Nat) : ∀ k, ∀ x ∈ txA a k, dv x < 16
  | 0, x, h => by cases h
  | k + 1, x, h => by
    rw [txA_succ] at h
    split at h
    · rcases List.mem_append.1 h with h | h
      · exact txA_ok a k x h
      · rw [List.mem_singleton.1 h]; exact dv_ok a k
    · exact txA_ok a k x h
theorem txA_lead (a : Nat) : ∀ k, k ≤ 63 → ∀ x l, txA a k = x :: l → x ≠ 48
  | 0, _, x, l, h => by cases h
  | k + 1, hk, x, l, h => by
    rw [txA_succ] at h
    split at h
    · rename_i hc
      cases ht : txA a k with
      | nil =>
        rw [ht] at h hc
        simp only [List.nil_append, List.cons.injEq] at h
        have h0 : 0 < nib a (63 - k) := by
          rcases hc with g | g | g
          · exact absurd rfl g
          · exact g
          · omega
        have h1 := dgA_48 a k
        rw [← h.1]
        intro g
        rw [g] at h1
        simp at h1
        omega
      | cons y t =>
        rw [ht, List.cons_append] at h
        simp only [List.cons.injEq] at h
        rw [← h.1]
        exact txA_lead a k (by omega) y t ht
    · exact txA_lead a k (by omega) x l h
theorem numD_take (l : List UInt8) : ∀ k, k ≤ l.length → numD l k = valL (l.take k)
  | 0, _ => rfl
  | k + 1, h => by
    rw [List.take_add_one, List.getElem?_eq_getElem (by omega)]
    show numD l k * 16 + dv (l.getD k 0) = valL (l.take k ++ [l[k]])
    rw [valL_snoc, numD_take l k (by omega)]
    congr 2
    simp [List.getD, List.getElem?_eq_getElem (show k < l.length by omega)]
theorem numD_val (l : List UInt8) : numD l l.length = valL l := by rw [numD_take l _ (Nat.le_refl _), List.take_length]
theorem txA_last (a : Nat) : txA a 64 = txA a 63 ++ [dgA a 63] := by
  rw [show (64 : Nat) = 63 + 1 from rfl, txA_succ a 63, if_pos (Or.inr (Or.inr rfl))]
theorem txA_val (a : Nat) (ha : a < MM) : valL (txA a 64) = a := by
  have h := txtL_val a ha
  rw [txA_txtL] at h
  generalize txA a 64 = T at *
  exact h
theorem txA_head (a : Nat) : ∃ x l, txA a 64 = x :: l ∧ (x ≠ 48 ∨ l = []) := by
  rw [txA_last]
  have hl := txA_lead a 63 (Nat.le_refl _)
  generalize txA a 63 = T at *
  cases T with
  | nil => exact ⟨_, _, rfl, .inr rfl⟩
  | cons x l => exact ⟨_, _, rfl, .inl (hl x l rfl)⟩
theorem parse_list (T : List UInt8) (hlen : T.length ≤ 64) (x : UInt8) (l : List UInt8) (hT : T = x :: l) (hx : x ≠ 48 ∨ l = []) (hok : ∀ y ∈ T, dv y < 16) (w : World) :
    Calls Tryd.prog 27 #[.string ⟨(48 :: 120 :: T).toArray⟩] w fun e w' => e = .returned (.tuple #[W (valL T), .int .i64 0]) ∧ Below w.heap.size w w' := by
  have hsz : (⟨T.toArray⟩ : ByteArray).size = T.length := by simp [ByteArray.size]
  have hpos : 0 < T.length := by rw [hT]; simp
  have h := parse_ok ⟨(48 :: 120 :: T).toArray⟩ ⟨T.toArray⟩ (by rw [hsz]; exact hlen)
    (show (⟨(Lib.trimPrefix (48 :: 120 :: T) [48, 120]).toArray⟩ : ByteArray) = _ by simp [Lib.trimPrefix, Lib.hasPrefix])
    (show Lib.hasPrefix (48 :: 120 :: T) [48, 120] = true by simp [Lib.hasPrefix])
    (by rw [hsz]; exact hpos)
    (show _ ∨ _ from by
      subst hT
      by_cases g : x = 48
      · right
        rcases hx with h | h
        · exact absurd g h
        · rw [h, g]; decide +kernel
      · left; exact g)
    (fun j hj => by
      rw [hsz] at hj
      have : T.getD j 0 ∈ T := by
        simp [List.getD, List.getElem?_eq_getElem hj]
      exact hok _ this) w
  rw [hsz] at h
  have e : numD T T.length = valL T := numD_val T
  rwa [show (⟨T.toArray⟩ : ByteArray).data.toList = T from rfl, e] at h
theorem parse_back (a : Nat) (ha : a < MM) (w : World) :
    Calls Tryd.prog 27 #[.string ⟨(txtL a).toArray⟩] w fun e w' => e = .returned (.tuple #[W a, .int .i64 0]) ∧ Below w.heap.size w w' := by
  obtain ⟨x, l, h1, h2⟩ := txA_head a
  have hlen := txA_len a 64
  have hok := txA_ok a 64
  have hv := txA_val a ha
  rw [txA_txtL]
  generalize txA a 64 = T at *
  have h := parse_list T hlen x l h1 h2 hok w
  rwa [hv] at h
end Go.Proofs.YtimmcljpfpimbaaDoor
