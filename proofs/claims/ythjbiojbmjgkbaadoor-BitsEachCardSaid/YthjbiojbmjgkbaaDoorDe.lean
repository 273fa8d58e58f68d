/- The reference of layer bits: Each. -/
import Derived.Test.YthjbiojbmjgkbaaDoorBp
import Derived.Test.YthjbiojbmjgkbaaDoorUb
namespace Go.Proofs.YthjbiojbmjgkbaaDoor
open Go.RowKit Go.Shelf
attribute [local go_sem] ix0 ix1 ix2 ix3
theorem info_int : (Tryd.prog.info? 3).map (fun i => (i.zero, i.size, i.bytes)) = some (some (.int .i64 0), 1, 8) := by kernel_rfl
/-- The bits so far, as cells. -/
def ebC (a t : Nat) : List Value := (eb a t).map fun (i : Nat) => Value.int .i64 (i : Int)
theorem ebC_len (a t : Nat) : (ebC a t).length = (eb a t).length := by unfold ebC; simp
theorem ebC_hit (a t : Nat) (h : a.testBit t = true) : ebC a (t + 1) = ebC a t ++ [.int .i64 t] := by unfold ebC; rw [eb_hit a t h]; simp
theorem eb_miss (a t : Nat) (h : a.testBit t = false) : eb a (t + 1) = eb a t := by rw [eb_succ, h]; simp
attribute [local irreducible] lb
set_option maxRecDepth 100000 in
set_option maxHeartbeats 4000000 in
theorem reach_any (a : Nat) (w : World) :
    Calls Tryd.prog 28 #[W a] w fun e w' => ∃ v, e = .returned v ∧ w'.ownsRow (w.heap.size + 1) 3 1 v (eb a 256).length (ebC a 256) ∧ Below w.heap.size w w' := by
  obtain ⟨i0, hi, hz0, hz1, hz2⟩ := info_parts info_int
  have hu : Tryd.prog.underlying 35 = some (.slice 3) := by kernel_rfl
  go_enter Tryd.func28, Tryd.ntmps28
  go_wp2_with fail
  go_loopw [3, 4] (fun v i wr => ∃ k : Nat, k ≤ 256 ∧ i = .int .i64 k ∧ wr.ownsRow (w.heap.size + 1) 3 1 v (eb a k).length (ebC a k) ∧ Blk wr w.heap.size 25 (Wc a) ∧ Below w.heap.size w wr) (fun _ i _ => 256 - (intOf i).toNat)
  case atStart => exact ⟨0, by omega, rfl, ⟨rfl, .inl ⟨rfl, rfl⟩⟩, Blk.new w _ _, balloc (Below.refl _ _) _⟩
  case round =>
    obtain ⟨k, hk, rfl, hown, A, hB⟩ := hrel
    by_cases hlt : k < 256
    · have hle := eb_len a k
      have hbit := rbit_any a k hlt
      rw [bit_ref] at hbit
      obtain ⟨a0, a1, a2, a3, _, _, _, _⟩ := A.get4
      obtain ⟨t, ht⟩ : ∃ t, a.testBit k = t := ⟨_, rfl⟩
      rw [ht] at hbit
      have HBIT := Lib.hid hbit
      have HT := Lib.hid ht
      have HX := Lib.hid (And.intro hown (And.intro A hB))
      clear hown A hB hbit ht
      go_wp2_with fail
      refine (HBIT.out _).mono ?_
      rintro e w1 ⟨rfl, h1⟩
      obtain ⟨hown, A, hB⟩ := HX.out
      have hown1 := owns_below hown h1
      have HX1 := Lib.hid (And.intro (A.keep h1) (bstep hB h1))
      have hgr := (bstep hB h1).size
      have hal := (A.keep h1).lt
      clear HX hown A hB h1 HBIT a0 a1 a2 a3
      cases t with
      | true =>
        have HH := Lib.hid hgr
        go_wp2_with (first
          | (at_builtin; refine wpList_append_own _ rfl _ _ 35 rfl (w.heap.size + 1) 3 i0 (.int .i64 0) 1 8 hu hi hz0 hz1 hz2 rfl (by decide) _ _ _ rfl (hown1.alloc _) ⟨w1.heap.size, 0, none⟩ 1 1 [.int .i64 k] rfl rfl ?c1 ?c2 ?c3 ?c4 ?c5 ?_)
          | fail)
        case c1 =>
          intro j v hj
          have hN := Blk.new w1 3 #[.int .i64 k]
          rcases j with _ | j
          · simp at hj; subst hj; exact cell_of_row _ _ 0 _ _ _ hN
          · simp at hj
        case c2 => exact fun u hu => by simp at hu; subst hu; rfl
        case c3 => unfold maxLen; omega
        case c4 => omega
        case c5 => simp; omega
        intro v' w2 hown2 hgrow _
        obtain ⟨A, hB⟩ := HX1.out
        have A1 := box_kept (hown1.alloc _) hgrow (by omega) (A.alloc _)
        have hW1 := world_kept (hown1.alloc _) hgrow (balloc hB _) (Nat.le_refl _) (by omega)
        have HO := Lib.hid hown2
        have HY := Lib.hid (And.intro A1 hW1)
        clear hown1 hown2 hgrow A hB HX1 A1 hW1 hi hz0 hz1 hz2 hu
        go_wp2_with fail
        go_roundw
        case rel => exact ⟨k + 1, by omega, by go_num, by rw [ebC_hit a k HT.out, eb_hit a k HT.out, List.length_append]; exact HO.out, HY.out⟩
        case measure => simp [intOf]; omega
      | false =>
        have HO := Lib.hid hown1
        clear hown1
        go_wp2_with fail
        go_roundw
        case rel => exact ⟨k + 1, by omega, by go_num, by rw [show ebC a (k + 1) = ebC a k by unfold ebC; rw [eb_miss a k HT.out], eb_miss a k HT.out]; exact HO.out, HX1.out⟩
        case measure => simp [intOf]; omega
    · obtain rfl : k = 256 := by omega
      have HO := Lib.hid (And.intro hown hB)
      clear hown A hB
      go_wp2
      exact bodyPost_ret (R := fun e w' => ∃ v, e = .returned v ∧ w'.ownsRow (w.heap.size + 1) 3 1 v (eb a 256).length (ebC a 256) ∧ Below w.heap.size w w') (v := u3) (by simp [results, Tryd.results28, go_sem]) rfl ⟨_, rfl, HO.out.1, HO.out.2⟩
end Go.Proofs.YthjbiojbmjgkbaaDoor
