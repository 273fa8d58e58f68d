/- code: which op a name is (slices.Index, find, Named; the reference's Named). -/
import Derived.Test.YtcdmaapjcckbmaaDoorXj
namespace Go.Proofs.YtcdmaapjcckbmaaDoor
open Go.RowKit Go.Shelf

theorem seq_ne {s t : ByteArray} (h : s ≠ t) : (s.toList == t.toList) = false := by
  rw [beq_eq_false_iff_ne]
  intro e
  apply h
  apply Go.WideShapes.bytes_inj
  rwa [ByteArray.toList_eq, ByteArray.toList_eq] at e
theorem seq_self (s : ByteArray) : (s.toList == s.toList) = true := by simp
theorem semp_ne {s : ByteArray} (h : s ≠ ⟨#[]⟩) : (s.toList == []) = false := by
  have := seq_ne h
  simpa using this
theorem semp_self : ((⟨#[]⟩ : ByteArray).toList == []) = true := by simp
/-- Where a text is first among the names of all ops (of nothing: nowhere). -/
def nix (s : ByteArray) : Option Nat := if s = ⟨#[]⟩ then none else (List.range 256).find? fun j => nmO j = s
theorem nix_some {s : ByteArray} {k : Nat} (h : nix s = some k) : s ≠ ⟨#[]⟩ ∧ k < 256 ∧ nmO k = s ∧ ∀ j, j < k → nmO j ≠ s := by
  unfold nix at h
  split at h
  · cases h
  · rename_i hs
    rw [List.find?_range_eq_some] at h
    obtain ⟨h1, h2, h3⟩ := h
    refine ⟨hs, by simpa using h2, by simpa using h1, fun j hj => by simpa using h3 j hj⟩
theorem nix_none {s : ByteArray} (h : nix s = none) (hs : s ≠ ⟨#[]⟩) : ∀ j, j < 256 → nmO j ≠ s := by
  unfold nix at h
  rw [if_neg hs, List.find?_eq_none] at h
  intro j hj
  have := h j (List.mem_range.2 hj)
  simpa using this
def nk (s : ByteArray) : Nat := (nix s).getD 0
def nb (s : ByteArray) : Bool := (nix s).isSome
theorem nmO_first : nmO 12 = ⟨#[]⟩ := by rfl
theorem nmO_before : ∀ j : Fin 12, nmO j.val ≠ ⟨#[]⟩ := by decide +kernel

set_option maxRecDepth 100000 in
set_option maxHeartbeats 2000000 in
theorem index_hit (b o c m : Nat) (F : Nat → ByteArray) (s : ByteArray) (k : Nat) (hk : k < m) (hm : m ≤ 256) (h1 : F k = s) (h2 : ∀ j, j < k → F j ≠ s) (w : World) (hc : ∀ j, j < m → w.cell? ⟨b, o + j, none⟩ = some (.string (F j))) :
    Calls Tryd.prog 63 #[.slice (some ⟨b, o, none⟩) m c, .string s] w fun e w' => e = .returned (.int .i64 k) ∧ w = w' := by
  have HC := Lib.hid hc
  have H2 := Lib.hid h2
  have HK := Lib.hid (And.intro hk hm)
  clear hc h2
  go_enter Tryd.func63, Tryd.ntmps63
  go_wp2_with fail
  go_loopw [8] (fun t8 wr => ∃ j : Nat, j ≤ k ∧ t8 = .int .i64 (j : Nat) ∧ w = wr) (fun t8 _ => (256 - intOf t8).toNat)
  case atStart => exact ⟨0, by omega, rfl, rfl⟩
  case round =>
    obtain ⟨j, hj, rfl, rfl⟩ := hrel
    have hjm : (j : Int) < m := by have := HK.out; omega
    have hj0 : (0 : Int) ≤ (j : Int) := by omega
    have g1 : IntKind.i64.wrap ((j : Int) + 1) = ((j + 1 : Nat) : Int) := by rw [IntWalk.i64_in _ (by have := HK.out; omega)]; omega
    have c0 : w.cell? ⟨b, o + j, none⟩ = some (.string (F j)) := HC.out j (by have := HK.out; omega)
    by_cases e : j = k
    · subst e
      rw [h1] at c0
      have hq := seq_self s
      clear hj h1 hk hm
      go_wp2_with fail
      go_ret
      exact ⟨rfl, rfl⟩
    · have hq := seq_ne (fun h => H2.out j (by omega) h.symm)
      have hjk := Lib.hid (show j + 1 ≤ k by omega)
      clear hj h1 e hk hm
      generalize hj1 : j + 1 = j1 at *
      have HJ := Lib.hid hj1
      clear hj1
      go_wp2_with fail
      exact ⟨⟨j1, hjk.out, rfl, trivial⟩, by have := HK.out; have := HJ.out; have := hjk.out; simp [intOf]; omega⟩
set_option maxRecDepth 100000 in
set_option maxHeartbeats 2000000 in
theorem index_miss (b o c m : Nat) (F : Nat → ByteArray) (s : ByteArray) (hm : m ≤ 256) (h2 : ∀ j, j < m → F j ≠ s) (w : World) (hc : ∀ j, j < m → w.cell? ⟨b, o + j, none⟩ = some (.string (F j))) :
    Calls Tryd.prog 63 #[.slice (some ⟨b, o, none⟩) m c, .string s] w fun e w' => e = .returned (.int .i64 (-1)) ∧ w = w' := by
  have HC := Lib.hid hc
  have H2 := Lib.hid h2
  have HK := Lib.hid hm
  clear hc h2
  go_enter Tryd.func63, Tryd.ntmps63
  go_wp2_with fail
  go_loopw [8] (fun t8 wr => ∃ j : Nat, j ≤ m ∧ t8 = .int .i64 (j : Nat) ∧ w = wr) (fun t8 _ => (256 - intOf t8).toNat)
  case atStart => exact ⟨0, by omega, rfl, rfl⟩
  case round =>
    obtain ⟨j, hj, rfl, rfl⟩ := hrel
    by_cases e : j < m
    · have hjm : (j : Int) < m := by omega
      have hj0 : (0 : Int) ≤ (j : Int) := by omega
      have g1 : IntKind.i64.wrap ((j : Int) + 1) = ((j + 1 : Nat) : Int) := by rw [IntWalk.i64_in _ (by have := HK.out; omega)]; omega
      have c0 : w.cell? ⟨b, o + j, none⟩ = some (.string (F j)) := HC.out j e
      have hq := seq_ne (fun h => H2.out j e h.symm)
      have hjk := Lib.hid (show j + 1 ≤ m by omega)
      clear hj e hm
      generalize hj1 : j + 1 = j1 at *
      have HJ := Lib.hid hj1
      clear hj1
      go_wp2_with fail
      exact ⟨⟨j1, hjk.out, rfl, trivial⟩, by have := HK.out; have := HJ.out; have := hjk.out; simp [intOf]; omega⟩
    · have hjm : ¬ (j : Int) < m := by omega
      clear hj e hm
      go_wp2_with fail
      go_ret
      exact ⟨rfl, rfl⟩
theorem index_names (b o c : Nat) (s : ByteArray) (w : World) (hc : ∀ j, j < 256 → w.cell? ⟨b, o + j, none⟩ = some (.string (nmO j))) :
    Calls Tryd.prog 63 #[.slice (some ⟨b, o, none⟩) 256 c, .string s] w fun e w' => ∃ z : Int, e = .returned (.int .i64 z) ∧ w = w' ∧ (nix s = none → s ≠ ⟨#[]⟩ → z = -1) ∧ (∀ k, nix s = some k → z = k) := by
  by_cases hs : s = ⟨#[]⟩
  · subst hs
    refine (index_hit b o c 256 nmO _ 12 (by omega) (by omega) nmO_first (fun j hj => nmO_before ⟨j, hj⟩) w hc).mono ?_
    rintro e w' ⟨rfl, rfl⟩
    exact ⟨_, rfl, rfl, fun _ h => absurd rfl h, fun k h => absurd rfl (nix_some h).1⟩
  · cases h : nix s with
    | none =>
      refine (index_miss b o c 256 nmO s (by omega) (nix_none h hs) w hc).mono ?_
      rintro e w' ⟨rfl, rfl⟩
      exact ⟨_, rfl, rfl, fun _ _ => rfl, fun k h => by cases h⟩
    | some k =>
      obtain ⟨_, h1, h2, h3⟩ := nix_some h
      refine (index_hit b o c 256 nmO s k h1 (by omega) h2 h3 w hc).mono ?_
      rintro e w' ⟨rfl, rfl⟩
      exact ⟨_, rfl, rfl, (fun h => by cases h), (fun j h => by cases h; rfl)⟩
set_option maxRecDepth 100000 in
set_option maxHeartbeats 2000000 in
theorem find_any (b o c : Nat) (s : ByteArray) (w : World) (hc : ∀ j, j < 256 → w.cell? ⟨b, o + j, none⟩ = some (.string (nmO j))) :
    Calls Tryd.prog 37 #[.slice (some ⟨b, o, none⟩) 256 c, .string s] w fun e w' => e = .returned (.tuple #[.int .i64 (nk s : Nat), .bool (nb s)]) ∧ w = w' := by
  have HI := Lib.hid (index_names b o c s w hc)
  clear hc
  by_cases hs : s = ⟨#[]⟩
  · have hz : nix s = none := by unfold nix; rw [if_pos hs]
    rw [show nk s = 0 by unfold nk; rw [hz]; rfl, show nb s = false by unfold nb; rw [hz]; rfl]
    have hq : (s.toList == []) = true := by rw [hs]; exact semp_self
    clear hs hz
    go_enter Tryd.func37, Tryd.ntmps37
    go_wp2_with (first | (go_at_call 63; refine (HI.out).mono ?_; rintro e w1 ⟨z, rfl, rfl, _, _⟩) | fail)
    go_ret2
    exact ⟨rfl, rfl⟩
  · have hq := semp_ne hs
    cases h : nix s with
    | none =>
      rw [show nk s = 0 by unfold nk; rw [h]; rfl, show nb s = false by unfold nb; rw [h]; rfl]
      have HS := Lib.hid (And.intro h hs)
      clear h hs
      go_enter Tryd.func37, Tryd.ntmps37
      go_wp2_with (first | (go_at_call 63; refine (HI.out).mono ?_; rintro e w1 ⟨z, rfl, rfl, h1, _⟩; obtain rfl := h1 HS.out.1 HS.out.2; clear h1) | fail)
      go_ret2
      exact ⟨rfl, rfl⟩
    | some k =>
      rw [show nk s = k by unfold nk; rw [h]; rfl, show nb s = true by unfold nb; rw [h]; rfl]
      have HS := Lib.hid h
      have hk : ¬ (k : Int) < 0 := by omega
      clear h hs
      go_enter Tryd.func37, Tryd.ntmps37
      go_wp2_with (first | (go_at_call 63; refine (HI.out).mono ?_; rintro e w1 ⟨z, rfl, rfl, _, h1⟩; obtain rfl := h1 k HS.out; clear h1) | fail)
      go_ret2
      exact ⟨rfl, rfl⟩
theorem nk_lt (s : ByteArray) : nk s < 256 := by
  unfold nk
  cases h : nix s with
  | none => simp
  | some k => exact (nix_some h).2.1
set_option maxRecDepth 100000 in
set_option maxHeartbeats 2000000 in
theorem named_any (s : ByteArray) (w : World) : Calls Tryd.prog 12 #[.string s] w fun e w' => e = .returned (.tuple #[.int .u8 (nk s : Nat), .bool (nb s)]) ∧ Below w.heap.size w w' := by
  have g0 : IntKind.u8.wrap ((nk s : Nat) : Int) = ((nk s : Nat) : Int) := IntWalk.u8_in _ (by have := nk_lt s; omega)
  have HFa := Lib.hid (fun b o c (w : World) hc => find_any b o c s w hc)
  generalize nk s = k at *
  generalize nb s = z at *
  go_enter Tryd.func12, Tryd.ntmps12
  go_upto_region 1 with fail
  refine wp_region_lit ?_
  refine wpList_plain rfl fun K hK => ?_
  go_simp
  refine (names_any _).mono ?_
  rintro e w1 ⟨rfl, hw⟩
  refine hK _ _ ?_
  clear hK K
  refine wpList_plain rfl fun K hK => ?_
  go_simp
  refine hK _ _ ?_
  clear hK K
  rw [zero_names]
  refine wpList_store_row rfl 63 (.tmp 4) (.tmp 7) rfl w1.heap.size (nmV 256) rfl rfl 63 (nmV 0) (Blk.new w1 _ _) (by rw [infoNm, nmV_size]) (by rw [nmV_size, nmV_size]) (nmV_one _) (wpList_nil ?_)
  rw [World.setRow_alloc_new]
  have hb : Blk (w1.alloc (.cells (nmV 256) 63)) w1.heap.size 63 (nmV 256) := Blk.new w1 _ _
  have HB := Lib.hid (balloc hw (.cells (nmV 256) 63))
  generalize w1.alloc (.cells (nmV 256) 63) = Y at hb HB ⊢
  have HF := Lib.hid (HFa.out w1.heap.size 0 256 Y (fun j hj => (by rw [Nat.zero_add, cell_of_row _ _ j _ _ _ hb, nmV_get _ _ hj, if_pos hj])))
  clear hb hw
  go_wp2_with (first | (go_at_call 37; refine (HF.out).mono ?_; rintro e w2 ⟨rfl, rfl⟩) | fail)
  go_ret2
  exact ⟨rfl, HB.out⟩
theorem next_no {j : Nat} {s : ByteArray} (h : ∀ i, i < j → nmO i = s → s = ⟨#[]⟩) (hs : nmO j = s → s = ⟨#[]⟩) : ∀ i, i < j + 1 → nmO i = s → s = ⟨#[]⟩ := by
  intro i hi e
  by_cases h2 : i < j
  · exact h i h2 e
  · obtain rfl : i = j := by omega
    exact hs e
set_option maxRecDepth 100000 in
set_option maxHeartbeats 2000000 in
theorem rnamed_any (s : ByteArray) (w : World) : Calls Tryd.prog 13 #[.string s] w fun e w' => e = .returned (.tuple #[.int .u8 (nk s : Nat), .bool (nb s)]) ∧ Below w.heap.size w w' := by
  go_enter Tryd.func13, Tryd.ntmps13
  go_wp2_with fail
  go_loopw [4] (fun t4 wr => ∃ j : Nat, j ≤ 256 ∧ (∀ i, i < j → nmO i = s → s = ⟨#[]⟩) ∧ t4 = .int .i64 (j : Nat) ∧ Below w.heap.size w wr) (fun t4 _ => (256 - intOf t4).toNat)
  case atStart => exact ⟨0, by omega, fun i hi => by omega, rfl, Below.refl _ _⟩
  case round =>
    obtain ⟨j, hj, hno, rfl, hB⟩ := hrel
    by_cases hlt : j < 256
    · have hjI : (j : Int) < 256 := by omega
      have g0 : IntKind.u8.wrap (j : Int) = (j : Int) := IntWalk.u8_in _ (by omega)
      have g1 : IntKind.i64.wrap ((j : Int) + 1) = ((j + 1 : Nat) : Int) := by rw [IntWalk.i64_in _ (by omega)]; omega
      have HI := Lib.hid (rinfo_any j hlt)
      have hnm : (⟨(oi j).nm.toArray⟩ : ByteArray) = nmO j := rfl
      generalize oi j = O at *
      simp only [oiC] at HI
      rw [hnm] at HI
      clear hnm
      have HN := Lib.hid (And.intro hlt (And.intro hno hB))
      clear hlt hno hB hj
      by_cases h1 : nmO j = ⟨#[]⟩
      · have hq : ((nmO j).toList == []) = true := by rw [h1]; exact semp_self
        have hs : nmO j = s → s = ⟨#[]⟩ := fun h => h.symm.trans h1
        have HZ := Lib.hid (next_no HN.out.2.1 hs)
        clear h1 hs
        generalize nmO j = S at *
        generalize hj1 : j + 1 = j1 at *
        have HJ := Lib.hid hj1
        clear hj1
        go_wp2_with (first
          | (go_at_call 11; refine (HI.out _).mono ?_; rintro e w1 ⟨rfl, hi⟩; have HW := Lib.hid hi; clear hi)
          | fail)
        obtain ⟨hlt, hno, hB⟩ := HN.out
        have HE := Lib.hid (balloc (bstep hB HW.out) (.cells #[.string S, .int .i64 O.i, .int .i64 O.o, .int .u64 O.g, .bool O.q, .int .i64 O.z] 25))
        exact ⟨⟨j1, (by have := HJ.out; omega), HZ.out, rfl, HE.out⟩, (by have := HJ.out; simp [intOf]; omega)⟩
      · by_cases h2 : nmO j = s
        · have hz : nix s = some j := by
            unfold nix
            rw [if_neg (fun e => h1 (h2.trans e)), List.find?_range_eq_some]
            refine ⟨by simpa using h2, by simpa using HN.out.1, fun i hi => ?_⟩
            have h3 := HN.out.2.1 i hi
            simp only [Bool.not_eq_true', decide_eq_false_iff_not]
            exact fun h => h1 (h2.trans (h3 h))
          have HV := Lib.hid (show nk s = j ∧ nb s = true by unfold nk nb; rw [hz]; exact ⟨rfl, rfl⟩)
          have hq : ((nmO j).toList == []) = false := semp_ne h1
          have hq2 : ((nmO j).toList == s.toList) = true := by rw [h2]; exact seq_self s
          clear h1 h2 hz
          generalize nmO j = S at *
          go_wp2_with (first
            | (go_at_call 11; refine (HI.out _).mono ?_; rintro e w1 ⟨rfl, hi⟩; have HW := Lib.hid hi; clear hi)
            | fail)
          go_ret2
          rw [HV.out.1, HV.out.2]
          exact ⟨rfl, balloc (bstep HN.out.2.2 HW.out) _⟩
        · have hq : ((nmO j).toList == []) = false := semp_ne h1
          have hq2 := seq_ne h2
          have HZ := Lib.hid (next_no HN.out.2.1 (fun h => absurd h h2))
          clear h1 h2
          generalize nmO j = S at *
          generalize hj1 : j + 1 = j1 at *
          have HJ := Lib.hid hj1
          clear hj1
          go_wp2_with (first
            | (go_at_call 11; refine (HI.out _).mono ?_; rintro e w1 ⟨rfl, hi⟩; have HW := Lib.hid hi; clear hi)
            | fail)
          obtain ⟨hlt, hno, hB⟩ := HN.out
          have HE := Lib.hid (balloc (bstep hB HW.out) (.cells #[.string S, .int .i64 O.i, .int .i64 O.o, .int .u64 O.g, .bool O.q, .int .i64 O.z] 25))
          exact ⟨⟨j1, (by have := HJ.out; omega), HZ.out, rfl, HE.out⟩, (by have := HJ.out; simp [intOf]; omega)⟩
    · obtain rfl : j = 256 := by omega
      have hz : nix s = none := by
        unfold nix
        split
        · rfl
        · rename_i hs
          rw [List.find?_eq_none]
          intro i hi
          have h3 := hno i (List.mem_range.1 hi)
          simp only [decide_eq_true_eq]
          exact fun h => hs (h3 h)
      have HN := Lib.hid hB
      have HV := Lib.hid (show nk s = 0 ∧ nb s = false by unfold nk nb; rw [hz]; exact ⟨rfl, rfl⟩)
      clear hno hB hz
      go_wp2_with fail
      go_ret2
      rw [HV.out.1, HV.out.2]
      exact ⟨rfl, HN.out⟩
end Go.Proofs.YtcdmaapjcckbmaaDoor
