/- label: the document's principals, a number's text, a label's text. -/
import Derived.Test.YtenepkgjdoddgaaGreatDoorGg
import Derived.Laws.IdiomStrings
namespace Go.Proofs.YtenepkgjdoddgaaGreatDoor
open Go.RowKit Go.Shelf

/-- The principals so far, as cells. -/
def ebC (a t : Nat) : List Value := (eb a t).map fun (i : Nat) => Value.int .i64 (i : Int)
theorem ebC_len (a t : Nat) : (ebC a t).length = (eb a t).length := by unfold ebC; simp
theorem ebC_hit (a t : Nat) (h : a.testBit t = true) : ebC a (t + 1) = ebC a t ++ [.int .i64 t] := by unfold ebC; rw [eb_hit a t h]; simp

set_option maxRecDepth 100000 in
set_option maxHeartbeats 4000000 in
theorem rmembers_any (a : Nat) (ha : a < 2 ^ 64) (w : World) :
    Calls Tryz.prog 86 #[.int .u64 (a : Nat)] w fun e w' => ∃ v, e = .returned v ∧ w'.ownsRow w.heap.size 3 1 v (eb a 64).length (ebC a 64) ∧ Below w.heap.size w w' := by
  obtain ⟨i0, hi, hz0, hz1, hz2⟩ := info_parts info_int
  have hu : Tryz.prog.underlying 120 = some (.slice 3) := by kernel_rfl
  have HA := Lib.hid ha
  clear ha
  go_enter Tryz.func86, Tryz.ntmps86
  go_wp2_with fail
  go_loopw [3, 4] (fun v i wr => ∃ k : Nat, k ≤ 64 ∧ i = .int .i64 k ∧ wr.ownsRow w.heap.size 3 1 v (eb a k).length (ebC a k) ∧ Below w.heap.size w wr) (fun _ i _ => 64 - (intOf i).toNat)
  case atStart => exact ⟨0, by omega, rfl, ⟨rfl, .inl ⟨rfl, rfl⟩⟩, Below.refl _ _⟩
  case round =>
    obtain ⟨k, hk, rfl, hown, hB⟩ := hrel
    by_cases hlt : k < 64
    · have hle := eb_len a k
      have HBIT := Lib.hid (has_any a k HA.out hlt wr)
      obtain ⟨t, ht⟩ : ∃ t, a.testBit k = t := ⟨_, rfl⟩
      rw [ht] at HBIT
      have HT := Lib.hid ht
      have HX := Lib.hid (And.intro hown hB)
      clear hown hB ht
      go_wp2_with fail
      refine (HBIT.out).mono ?_
      rintro e w1 ⟨rfl, rfl⟩
      obtain ⟨hown, hB⟩ := HX.out
      have hgr := hB.size
      clear HX HBIT
      cases t with
      | true =>
        have HB := Lib.hid hB
        have HG := Lib.hid hgr
        clear hB hgr
        go_wp2_with (first
          | (at_builtin; refine wpList_append_own _ rfl _ _ 120 rfl w.heap.size 3 i0 (.int .i64 0) 1 8 hu hi hz0 hz1 hz2 rfl (by decide) _ _ _ rfl (hown.alloc _) ⟨wr.heap.size, 0, none⟩ 1 1 [.int .i64 k] rfl rfl ?c1 ?c2 ?c3 ?c4 ?c5 ?_)
          | fail)
        case c1 =>
          intro j v hj
          have hN := Blk.new wr 3 #[.int .i64 k]
          rcases j with _ | j
          · simp at hj; subst hj; exact cell_of_row _ _ 0 _ _ _ hN
          · simp at hj
        case c2 => exact fun u hu => by simp at hu; subst hu; rfl
        case c3 => unfold maxLen; omega
        case c4 => omega
        case c5 => have := HG.out; simp; omega
        intro v' w2 hown2 hgrow _
        have hW1 := world_kept (hown.alloc _) hgrow (balloc HB.out _) (Nat.le_refl _) (Nat.le_refl _)
        have HO := Lib.hid hown2
        have HY := Lib.hid hW1
        clear hown hown2 hgrow hW1 hi hz0 hz1 hz2 hu
        go_wp2_with fail
        go_roundw
        case rel => exact ⟨k + 1, by omega, by go_num, by rw [ebC_hit a k HT.out, eb_hit a k HT.out, List.length_append]; exact HO.out, HY.out⟩
        case measure => simp [intOf]; omega
      | false =>
        have HO := Lib.hid (And.intro hown hB)
        clear hown hB
        go_wp2_with fail
        go_roundw
        case rel => exact ⟨k + 1, by omega, by go_num, by rw [show ebC a (k + 1) = ebC a k by unfold ebC; rw [eb_miss a k HT.out], eb_miss a k HT.out]; exact HO.out.1, HO.out.2⟩
        case measure => simp [intOf]; omega
    · obtain rfl : k = 64 := by omega
      have HO := Lib.hid (And.intro hown hB)
      clear hown hB
      go_wp2
      exact bodyPost_ret (R := fun e w' => ∃ v, e = .returned v ∧ w'.ownsRow w.heap.size 3 1 v (eb a 64).length (ebC a 64) ∧ Below w.heap.size w w') (v := u3) (by simp [results, Tryz.results86, go_sem]) rfl ⟨_, rfl, HO.out.1, HO.out.2⟩

theorem conv1 (c : UInt8) (w : World) : (convert 86 9 (.slice (some ⟨w.heap.size, 0, none⟩) 1 1)).run Tryz.prog (w.alloc (.cells #[.int .u8 c.toNat] 5)) = .ok (.string ⟨#[c]⟩) (w.alloc (.cells #[.int .u8 c.toNat] 5)) := by
  exact run_convert_bytes_back (P := Tryz.prog) (w.alloc (.cells #[.int .u8 c.toNat] 5)) 86 9 5 ⟨w.heap.size, 0, none⟩ 1 [c] (by kernel_rfl) (by kernel_rfl) (by kernel_rfl) (fun j hj => by
    have e : j = 0 := by simpa using hj
    subst e
    exact cell_of_row _ _ 0 _ _ _ (Blk.new w 5 #[.int .u8 c.toNat]))

theorem conv10 (n : Nat) (hn : n < 10) (w : World) : (convert 86 9 (.slice (some ⟨w.heap.size, 0, none⟩) 1 1)).run Tryz.prog (w.alloc (.cells #[.int .u8 (48 + (n : Int))] 5)) = .ok (.string ⟨#[UInt8.ofNat (48 + n)]⟩) (w.alloc (.cells #[.int .u8 (48 + (n : Int))] 5)) := by
  have h := conv1 (UInt8.ofNat (48 + n)) w
  rw [show ((UInt8.ofNat (48 + n)).toNat : Int) = 48 + (n : Int) by simp [UInt8.toNat_ofNat']; omega] at h
  exact h
set_option maxRecDepth 100000 in
set_option maxHeartbeats 1000000 in
theorem rnumber_any (k : Nat) (hk : k < 64) (w : World) :
    Calls Tryz.prog 54 #[.int .u64 (k : Nat)] w fun e w' => e = .returned (.string ⟨(dec k).toArray⟩) ∧ Below w.heap.size w w' := by
  have m1 : (k : Int) % 10 = ((k % 10 : Nat) : Int) := by omega
  have q1 : (k : Int) / 10 = ((k / 10 : Nat) : Int) := by omega
  have c1 := conv10 (k % 10) (by omega)
  by_cases h : k < 10
  · have hq : (((k / 10 : Nat) : Int) == 0) = true := by simp; omega
    have HD := Lib.hid (show dec k = [UInt8.ofNat (48 + k % 10)] by unfold dec; rw [if_pos h, Nat.mod_eq_of_lt h])
    have hr : k % 10 < 10 := by omega
    generalize k % 10 = r at *
    generalize k / 10 = q at *
    generalize UInt8.ofNat (48 + r) = c at *
    clear h
    go_enter Tryz.func54, Tryz.ntmps54
    go_wp2
    refine wp_loop_rounds 1 ?_
    rw [rounds_succ]
    go_wp2
    go_ret
    rw [HD.out]
    exact ⟨rfl, balloc (Below.refl _ _) _⟩
  · have hq : (((k / 10 : Nat) : Int) == 0) = false := by simp; omega
    have m2 : ((k / 10 : Nat) : Int) % 10 = ((k / 10 : Nat) : Int) := by omega
    have q2 : ((k / 10 : Nat) : Int) / 10 = 0 := by omega
    have c2 := conv10 (k / 10) (by omega)
    have HD := Lib.hid (show dec k = [UInt8.ofNat (48 + k / 10), UInt8.ofNat (48 + k % 10)] by unfold dec; rw [if_neg h])
    have hr : k % 10 < 10 := by omega
    have hr2 : k / 10 < 10 := by omega
    generalize k % 10 = r at *
    generalize k / 10 = q at *
    generalize UInt8.ofNat (48 + r) = c at *
    generalize UInt8.ofNat (48 + q) = d at *
    have c2' := c2 (w.alloc (.cells #[.int .u8 (48 + (r : Int))] 5))
    rw [World.size_alloc] at c2'
    clear h c2
    go_enter Tryz.func54, Tryz.ntmps54
    go_wp2
    refine wp_loop_rounds 2 ?_
    rw [rounds_succ]
    go_wp2
    rw [rounds_succ]
    go_wp2
    go_ret
    rw [HD.out]
    exact ⟨rfl, balloc (balloc (Below.refl _ _) _) _⟩

theorem eb_at {a k x : Nat} (h : (eb a 64)[k]? = some x) : x < 64 := ((eb_mem a 64 x).1 (List.mem_of_getElem? h)).1
theorem jn_take {a k x : Nat} (h : (eb a 64)[k]? = some x) (hk : k ≠ 0) : jn ((eb a 64).take (k + 1)) = jn ((eb a 64).take k) ++ 44 :: dec x := by
  rw [List.take_add_one, h]
  refine jn_snoc _ _ (fun e => ?_)
  have := congrArg List.length e
  have hl := (List.getElem?_eq_some_iff.1 h).1
  rw [List.length_take, List.length_nil] at this
  omega
/-- A cell of the list of principals. -/
theorem want {X : World} {a base cap : Nat} {x : Option Addr} (h : X.ownsRow base 3 1 (.slice x (eb a 64).length cap) (eb a 64).length (ebC a 64)) {k b : Nat} (hk : (eb a 64)[k]? = some b) : ∃ g, x = some ⟨g, 0, none⟩ ∧ g < X.heap.size ∧ X.cell? ⟨g, k, none⟩ = some (.int .i64 b) := by
  obtain ⟨x', cap', hv, hx⟩ := owns_slice h
  cases hv
  have hlt := (List.getElem?_eq_some_iff.1 hk).1
  obtain ⟨g, rfl, hg, hgl⟩ := hx (by omega)
  refine ⟨g, rfl, hgl, ?_⟩
  have h1 := h.cells (g := g) rfl k (.int .i64 b) (by unfold ebC; rw [List.getElem?_map, hk]; rfl)
  have e : (⟨g, 0, none⟩ : Addr).add k = ⟨g, k, none⟩ := by
    unfold Addr.add
    split
    · rename_i h; subst h; rfl
    · simp
  rw [e] at h1
  exact h1

set_option maxRecDepth 100000 in
set_option maxHeartbeats 2000000 in
theorem rltext_any (a : Nat) (ha : a < 2 ^ 64) (w : World) :
    Calls Tryz.prog 53 #[.int .u64 (a : Nat)] w fun e w' => e = .returned (.string ⟨(txL a).toArray⟩) ∧ Below w.heap.size w w' := by
  by_cases h0 : a = 0
  · subst h0
    have HM := Lib.hid (rmembers_any 0 (by decide) w)
    go_enter Tryz.func53, Tryz.ntmps53
    go_wp2_with fail
    refine (HM.out).mono ?_
    rintro e w1 ⟨v, rfl, hown, hB⟩
    obtain ⟨x, cap, rfl, -⟩ := owns_slice hown
    rw [show (eb 0 64).length = 0 by decide]
    clear hown HM
    go_wp2_with fail
    go_ret
    exact ⟨rfl, hB⟩
  · have HM := Lib.hid (rmembers_any a ha w)
    have HT := Lib.hid (txL_pos a h0)
    have hne : eb a 64 ≠ [] := fun e => by
      obtain ⟨l, y, hl, _⟩ := eb_split a ha h0
      rw [hl] at e; simp at e
    have hpos : 0 < (eb a 64).length := List.length_pos_iff.2 hne
    have hle := eb_len a 64
    clear ha h0 hne
    go_enter Tryz.func53, Tryz.ntmps53
    go_wp2_with fail
    refine (HM.out).mono ?_
    rintro e w1 ⟨v, rfl, hown, hB⟩
    obtain ⟨x, cap, rfl, -⟩ := owns_slice hown
    obtain ⟨b, hb⟩ : ∃ b, (eb a 64)[0]? = some b := ⟨_, List.getElem?_eq_getElem hpos⟩
    obtain ⟨g, rfl, hg, hc⟩ := want hown hb
    have HN := Lib.hid (rnumber_any b (eb_at hb))
    have HJ := Lib.hid (show dec b = jn ((eb a 64).take 1) by rw [List.take_add_one, hb]; simp [jn])
    have hnz : (((eb a 64).length : Int) == 0) = false := by rw [beq_eq_false_iff_ne]; omega
    have g1 : IntKind.u64.wrap (b : Int) = (b : Int) := IntWalk.u64_in _ (by have := eb_at hb; omega)
    have HX := Lib.hid (And.intro hown hB)
    clear hown hB hb HM hg
    go_wp2_with fail
    refine (HN.out _).mono ?_
    rintro e w2 ⟨rfl, h2⟩
    have HY := Lib.hid (And.intro (owns_below HX.out.1 h2) (bstep HX.out.2 h2))
    clear h2 hc g1 hnz HN
    go_wp2_with fail
    go_loopw [4, 5] (fun s i wr => ∃ k : Nat, 1 ≤ k ∧ k ≤ (eb a 64).length ∧ i = .int .i64 k ∧ s = .string ⟨(jn ((eb a 64).take k)).toArray⟩ ∧ wr.ownsRow w.heap.size 3 1 (.slice (some ⟨g, 0, none⟩) (eb a 64).length cap) (eb a 64).length (ebC a 64) ∧ Below w.heap.size w wr) (fun _ i _ => (eb a 64).length - (intOf i).toNat)
    case atStart => exact ⟨1, by omega, by omega, rfl, by rw [HJ.out], HY.out⟩
    case round =>
      clear HX HY HJ
      obtain ⟨k, hk1, hk, rfl, rfl, hown, hB⟩ := hrel
      by_cases hlt : k < (eb a 64).length
      · obtain ⟨b, hb⟩ : ∃ b, (eb a 64)[k]? = some b := ⟨_, List.getElem?_eq_getElem hlt⟩
        obtain ⟨g', hg', hg, hc⟩ := want hown hb
        cases hg'
        have HN := Lib.hid (rnumber_any b (eb_at hb))
        have HJ := Lib.hid (jn_take hb (by omega))
        have g1 : IntKind.u64.wrap (b : Int) = (b : Int) := IntWalk.u64_in _ (by have := eb_at hb; omega)
        have hl1 := jn_len ((eb a 64).take k)
        rw [List.length_take] at hl1
        have hl2 := (dec_len b).2
        have HX := Lib.hid (And.intro hown hB)
        clear hown hB hb hg
        generalize dec b = db at *
        obtain ⟨L, hL⟩ : ∃ L, jn ((eb a 64).take k) = L := ⟨_, rfl⟩
        rw [hL] at HJ hl1 ⊢
        clear hL
        have hl3 : L.length ≤ 300 := by omega
        clear hl1
        go_wp2_with fail
        refine (HN.out _).mono ?_
        rintro e w2 ⟨rfl, h2⟩
        have HY := Lib.hid (And.intro (owns_below HX.out.1 h2) (bstep HX.out.2 h2))
        clear h2 hc g1 HN
        go_wp2_with fail
        go_roundw
        case rel => exact ⟨k + 1, by omega, by omega, by go_num, by rw [HJ.out, ByteArray.mk_append_mk, ByteArray.mk_append_mk]; simp, HY.out⟩
        case measure => simp [intOf]; omega
      · obtain rfl : k = (eb a 64).length := by omega
        have HX := Lib.hid hB
        rw [List.take_length]
        clear hown hB
        go_wp2_with fail
        go_ret
        rw [HT.out]
        exact ⟨rfl, HX.out⟩
end Go.Proofs.YtenepkgjdoddgaaGreatDoor
