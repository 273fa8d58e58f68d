/- The reference's Text, by a contract. -/
import Derived.Test.YtfknfopdinkmkaaVa
import Derived.Test.YtfknfopdinkmkaaWh
namespace Go.Proofs.Ytfknfopdinkmkaa
open Go.RowKit
attribute [local go_sem] ix0 ix1 ix2 ix3
/-- The letter of digit k from the top. -/
def dgA (a k : Nat) : UInt8 := UInt8.ofNat (dgN (nib a (63 - k)))
/-- What lies there ahead of digit k: no noughts ahead but a last one. -/
def txA (a : Nat) : Nat → List UInt8
  | 0 => []
  | k + 1 => if txA a k ≠ [] ∨ 0 < nib a (63 - k) ∨ k = 63 then txA a k ++ [dgA a k] else txA a k
theorem txA_succ (a k : Nat) : txA a (k + 1) = if txA a k ≠ [] ∨ 0 < nib a (63 - k) ∨ k = 63 then txA a k ++ [dgA a k] else txA a k := rfl
theorem dg_48 : ∀ n : Fin 16, (UInt8.ofNat (dgN n.val) == 48) = (n.val == 0) := by decide +kernel
theorem dgA_48 (a k : Nat) : (dgA a k == 48) = (nib a (63 - k) == 0) := dg_48 ⟨_, nib_lt a (63 - k)⟩
theorem hexL_take (a k : Nat) (h : k < 64) : (hexL a).take (k + 1) = (hexL a).take k ++ [dgA a k] := by
  have hl : (hexL a).length = 64 := by unfold hexL; simp
  rw [List.take_add_one]
  congr 1
  rw [List.getElem?_eq_getElem (by omega)]
  unfold hexL dgA
  simp
theorem trim_snoc (l : List UInt8) (x : UInt8) : Lib.trimLeftB (l ++ [x]) 48 = if Lib.trimLeftB l 48 = [] then (if (x == 48) = true then [] else [x]) else Lib.trimLeftB l 48 ++ [x] := by
  unfold Lib.trimLeftB
  rw [List.dropWhile_append]
  by_cases h : List.dropWhile (fun x => x == 48) l = []
  · rw [if_pos (by rw [h]; rfl), if_pos h]
    by_cases g : (x == 48) = true
    · rw [if_pos g]; simp [g]
    · rw [if_neg g]; simp [g]
  · rw [if_neg (by simpa using h), if_neg h]
theorem txA_trim (a : Nat) : ∀ k, k ≤ 63 → txA a k = Lib.trimLeftB ((hexL a).take k) 48
  | 0, _ => by rw [List.take_zero]; rfl
  | k + 1, h => by
    rw [hexL_take a k (by omega), trim_snoc, ← txA_trim a k (by omega), dgA_48, txA_succ]
    by_cases h1 : txA a k = []
    · rw [if_pos h1]
      by_cases h2 : nib a (63 - k) = 0
      · rw [if_neg (by rintro (g | g | g) <;> first | exact g h1 | omega), if_pos (by simpa using h2), h1]
      · rw [if_pos (.inr (.inl (by omega))), if_neg (by simpa using h2), h1]; rfl
    · rw [if_neg h1, if_pos (.inl h1)]
theorem txA_txtL (a : Nat) : txtL a = 48 :: 120 :: txA a 64 := by
  have h := hexL_take a 63 (by omega)
  rw [show (hexL a).take (63 + 1) = hexL a from List.take_of_length_le (by unfold hexL; simp)] at h
  have ht : txA a 64 = txA a 63 ++ [dgA a 63] := by
    show txA a (63 + 1) = _
    rw [txA_succ, if_pos (Or.inr (Or.inr rfl))]
  have e : (if (Lib.trimLeftB (hexL a) 48).isEmpty then [48] else Lib.trimLeftB (hexL a) 48) = txA a 64 := by
    rw [h, trim_snoc, ← txA_trim a 63 (by omega), dgA_48, ht]
    generalize txA a 63 = t
    by_cases h1 : t = []
    · rw [if_pos h1, h1]
      by_cases h2 : nib a (63 - 63) = 0
      · have h3 : dgA a 63 = 48 := by
          have := dgA_48 a 63
          rw [h2] at this
          simpa using this
        rw [if_pos (by simpa using h2), h3]; rfl
      · have h2' : (nib a (63 - 63) == 0) = false := by simpa using h2
        rw [h2']; rfl
    · rw [if_neg h1]
      simp
  unfold txtL
  rw [e]

theorem dig_ex : ∀ n : Nat, n < 16 → (⟨#[48, 49, 50, 51, 52, 53, 54, 55, 56, 57, 97, 98, 99, 100, 101, 102]⟩ : ByteArray).extract n (n + 1) = ⟨#[UInt8.ofNat (dgN n)]⟩
  | 0, _ | 1, _ | 2, _ | 3, _ | 4, _ | 5, _ | 6, _ | 7, _ | 8, _ | 9, _ | 10, _ | 11, _ | 12, _ | 13, _ | 14, _ | 15, _ => by rfl
  | n + 16, h => absurd h (by omega)
theorem txA_len (a : Nat) : ∀ k, (txA a k).length ≤ k
  | 0 => Nat.le_refl _
  | k + 1 => by
    have := txA_len a k
    rw [txA_succ]
    split
    · simp; omega
    · omega
/-- 32 cells are laid into a block of noughts that is new. -/
theorem lay32 (a : Nat) (w wk : World) (hk : Below w.heap.size w wk) : ∃ wz, (storeCells ⟨wk.heap.size, 0, none⟩ (byC a 32).toList).run Try.prog (wk.alloc (.cells (byC 0 0) 24)) = .ok () wz ∧ Blk wz wk.heap.size 24 (byC a 32) ∧ Below w.heap.size w wz := by
  have hz := Blk.new wk 24 (byC 0 0)
  have h1 := byC_one a 32
  have ht := hz.there (byC a 32).size (by rw [byC_size, byC_size]; exact Nat.le_refl _)
  refine ⟨_, run_storeCells_cells wk.heap.size 0 (byC a 32).toList 0 _ (fun j hj => ?_) (fun j hj => ?_) (fun v hv => ?_), ?_, ?_⟩
  · exact (ht j (by simpa using hj)).1
  · exact (ht j (by simpa using hj)).2
  · exact (Array.all_eq_true_iff_forall_mem.1 h1) v (by simpa using hv)
  · exact blk_setCells hz (byC a 32) (by rw [byC_size, byC_size]) h1
  · exact below_setCells' hk.size _ 0 _ (balloc hk _)

set_option maxRecDepth 100000 in
set_option maxHeartbeats 4000000 in
theorem rtext_any (a : Nat) (w : World) :
    Calls Try.prog 14 #[W a] w fun e w' => e = .returned (.string ⟨(txtL a).toArray⟩) ∧ Below w.heap.size w w' := by
  have HT := Lib.hid (txA_txtL a)
  have hi : (Try.prog.info? 24).map (·.size) = some (byC a 32).size := by rw [byC_size]; kernel_rfl
  have HI := Lib.hid hi
  clear hi
  go_enter Try.func14, Try.ntmps14
  go_wp2_with (first
    | (go_at_call 23; refine (rbytes_any a _).mono ?_; rintro e wk ⟨rfl, hk⟩; obtain ⟨wz, hst, hX, hB⟩ := lay32 a w wk (bstep (balloc (Below.refl _ _) _) hk); rw [byC_zero 0] at hst; have HX := Lib.hid hX; have HB := Lib.hid hB; clear hX hB hk) | fail)
  go_loopw [4, 5] (fun s i wr => ∃ k : Nat, k ≤ 64 ∧ s = .string ⟨(txA a k).toArray⟩ ∧ i = .int .i64 k ∧ Blk wr wk.heap.size 24 (byC a 32) ∧ Below w.heap.size w wr) (fun _ i _ => 64 - (intOf i).toNat)
  case atStart => exact ⟨0, by omega, rfl, rfl, HX.out, HB.out⟩
  case round =>
    clear HX HB hst
    obtain ⟨k, hk, rfl, rfl, hx, hB⟩ := hrel
    by_cases hlt : k < 64
    · have hc := (cell_of_row wr _ _ _ _ _ hx).trans (byC_get a 32 (k / 2) (by omega))
      rw [if_pos (by omega : 31 - k / 2 < 32)] at hc
      have hlo := nib_lo a (31 - k / 2)
      have hhi := nib_hi a (31 - k / 2)
      have hb := byA_lt a (31 - k / 2)
      have HX := Lib.hid hx
      clear hx
      obtain ⟨y, hy⟩ : ∃ y, byA a (31 - k / 2) = y := ⟨_, rfl⟩
      rw [hy] at hc hlo hhi hb
      clear hy
      obtain ⟨n, hnn⟩ : ∃ n, nib a (63 - k) = n := ⟨_, rfl⟩
      have hn := nib_lt a (63 - k)
      have hS := txA_succ a k
      rw [show dgA a k = UInt8.ofNat (dgN (nib a (63 - k))) from rfl] at hS
      have hlen := txA_len a k
      rw [hnn] at hn hS
      have hm1 : (n : Int) % 16 = (n : Int) := by omega
      by_cases hpar : k % 2 = 0
      · have e : y / 16 = n := by rw [hhi, ← hnn]; congr 1; omega
        have hd : (y : Int) / 16 = (n : Int) := by omega
        have hp2 : ((k : Int) % 2 = 0) := by omega
        clear hlo hhi e hnn
        by_cases h1 : txA a k = []
        · rw [h1] at hS ⊢
          have HS := Lib.hid hS
          clear h1 hS hlen
          have h63 : Hid (k = 63) ∧ ((k : Int) == 63) = true ∨ Hid (¬ k = 63) ∧ ((k : Int) == 63) = false := by
            by_cases h : k = 63
            · exact .inl ⟨h, by simp; omega⟩
            · exact .inr ⟨h, by simp; omega⟩
          rcases h63 with ⟨HK, h63'⟩ | ⟨HK, h63'⟩
          all_goals go_wp2
          all_goals
            have h63 := HK.out
            first
              | (exfalso; omega)
              | (refine ⟨⟨k + 1, by omega, ?_, by go_num, HX.out, hB⟩, by simp [intOf]; omega⟩
                 first
                   | (have hcn : ¬ (([] : List UInt8) ≠ [] ∨ 0 < n ∨ k = 63) := by (rintro (g | g | g) <;> first | exact g rfl | omega)
                      rw [HS.out, if_neg hcn])
                   | (have hcp : ([] : List UInt8) ≠ [] ∨ 0 < n ∨ k = 63 := by (right; omega)
                      rw [dig_ex _ hn, ByteArray.mk_append_mk, HS.out, if_pos hcp]; try rfl)
                   | (have hn0 : n = 0 := by omega
                      subst hn0
                      have hcp : ([] : List UInt8) ≠ [] ∨ 0 < 0 ∨ k = 63 := by (right; omega)
                      rw [dig_ex 0 hn, ByteArray.mk_append_mk, HS.out, if_pos hcp]; try rfl))
        · obtain ⟨x, l, hl⟩ := List.exists_cons_of_ne_nil h1
          rw [hl] at hS hlen ⊢
          have HS := Lib.hid hS
          have hlen2 : l.length + 1 ≤ k := hlen
          clear h1 hl hS hlen
          go_wp2
          all_goals
            first
              | (exfalso; omega)
              | (refine ⟨⟨k + 1, by omega, ?_, by go_num, HX.out, hB⟩, by simp [intOf]; omega⟩
                 rw [dig_ex _ hn, ByteArray.mk_append_mk, HS.out, if_pos (by left; simp)]; try simp)
      · have e : y % 16 = n := by rw [hlo, ← hnn]; congr 1; omega
        have hd : (y : Int) % 16 = (n : Int) := by omega
        have hp2 : ¬ ((k : Int) % 2 = 0) := by omega
        clear hlo hhi e hnn
        by_cases h1 : txA a k = []
        · rw [h1] at hS ⊢
          have HS := Lib.hid hS
          clear h1 hS hlen
          have h63 : Hid (k = 63) ∧ ((k : Int) == 63) = true ∨ Hid (¬ k = 63) ∧ ((k : Int) == 63) = false := by
            by_cases h : k = 63
            · exact .inl ⟨h, by simp; omega⟩
            · exact .inr ⟨h, by simp; omega⟩
          rcases h63 with ⟨HK, h63'⟩ | ⟨HK, h63'⟩
          all_goals go_wp2
          all_goals
            have h63 := HK.out
            first
              | (exfalso; omega)
              | (refine ⟨⟨k + 1, by omega, ?_, by go_num, HX.out, hB⟩, by simp [intOf]; omega⟩
                 first
                   | (have hcn : ¬ (([] : List UInt8) ≠ [] ∨ 0 < n ∨ k = 63) := by (rintro (g | g | g) <;> first | exact g rfl | omega)
                      rw [HS.out, if_neg hcn])
                   | (have hcp : ([] : List UInt8) ≠ [] ∨ 0 < n ∨ k = 63 := by (right; omega)
                      rw [dig_ex _ hn, ByteArray.mk_append_mk, HS.out, if_pos hcp]; try rfl)
                   | (have hn0 : n = 0 := by omega
                      subst hn0
                      have hcp : ([] : List UInt8) ≠ [] ∨ 0 < 0 ∨ k = 63 := by (right; omega)
                      rw [dig_ex 0 hn, ByteArray.mk_append_mk, HS.out, if_pos hcp]; try rfl))
        · obtain ⟨x, l, hl⟩ := List.exists_cons_of_ne_nil h1
          rw [hl] at hS hlen ⊢
          have HS := Lib.hid hS
          have hlen2 : l.length + 1 ≤ k := hlen
          clear h1 hl hS hlen
          go_wp2
          all_goals
            first
              | (exfalso; omega)
              | (refine ⟨⟨k + 1, by omega, ?_, by go_num, HX.out, hB⟩, by simp [intOf]; omega⟩
                 rw [dig_ex _ hn, ByteArray.mk_append_mk, HS.out, if_pos (by left; simp)]; try simp)
    · obtain rfl : k = 64 := by omega
      have hlen := txA_len a 64
      clear hx
      obtain ⟨l, hl⟩ : ∃ l, txA a 64 = l := ⟨_, rfl⟩
      rw [hl] at hlen HT ⊢
      clear hl
      go_wp2
      all_goals
        first
          | (exfalso; omega)
          | (go_ret
             rw [HT.out]
             exact ⟨by rw [ByteArray.mk_append_mk]; simp, hB⟩)
end Go.Proofs.Ytfknfopdinkmkaa
