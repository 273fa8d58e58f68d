/- big: Power in general, Rest. -/
import Derived.Test.YtjkniebedgiclaaDoorOf
namespace Go.Proofs.YtjkniebedgiclaaDoor
open Go.RowKit Go.Shelf

set_option maxRecDepth 100000 in
set_option maxHeartbeats 4000000 in
theorem power_nought (B : Nat) (x1 x2 x3 : Option Addr) (n1 c1 n2 c2 c3 : Nat) (ml : List Nat) (w : World) (h1 : n1 ≤ 128) (h2 : n2 ≤ 128) (h3 : ml.length ≤ 128) (hm : Bto B w (.slice x3 ml.length c3) ml) (hz : dz ml = []) :
    Calls Tryd.prog 9 #[.slice x1 n1 c1, .slice x2 n2 c2, .slice x3 ml.length c3] w fun e w' => (∃ v, e = .returned (.tuple #[v, .int .i64 0]) ∧ Bto w'.heap.size w' v (tb 0 ml.length)) ∧ Below w.heap.size w w' := by
  obtain ⟨X, hX⟩ : ∃ X, w.alloc (.cells #[.slice x1 n1 c1, .slice x2 n2 c2, .slice x3 ml.length c3] 22) = X := ⟨_, rfl⟩
  have hW : Below w.heap.size w X := by rw [← hX]; exact balloc (Below.refl w.heap.size w) _
  have hBk : Blk X w.heap.size 22 #[.slice x1 n1 c1, .slice x2 n2 c2, .slice x3 ml.length c3] := by rw [← hX]; exact Blk.new w _ _
  have hL := Lib.hid (longest_any w.heap.size n1 c1 n2 c2 ml.length c3 x1 x2 x3 X hBk)
  have hN := Lib.hid (len_any B _ ml X (by omega) (hm.new hW))
  have hb0 := (blen_zero ml).2 hz
  rw [hb0] at hN
  obtain ⟨n, hn⟩ : ∃ n, ml.length = n := ⟨_, rfl⟩
  rw [hn] at hL hX hN h3 ⊢
  have hmk := make_bytes n (by omega) X
  obtain ⟨m, hm'⟩ : ∃ m, max (max (max 0 n1) n2) n = m := ⟨_, rfl⟩
  have hm128 : m ≤ 128 := by omega
  rw [hm'] at hL
  have g1 : ¬ (128 : Int) < (m : Int) := by omega
  have hHX := Lib.hid hX
  have hHW := Lib.hid hW
  clear hm' hm128 hX hW hBk hm hz hb0 hn
  go_enter Tryd.func9, Tryd.ntmps9
  go_wp2
  refine wp_scope_jumps 0 (fun _ _ => False) (fun _ _ => 0) rfl ?first ?pass
  case first =>
    go_wp2_with (first | (go_at_call 21; rw [hHX.out]; refine hL.out.mono ?_; rintro e w1 ⟨rfl, rfl⟩) | (go_at_call 18; refine hN.out.mono ?_; rintro e w1 ⟨rfl, rfl⟩) | fail)
    simp only [Exit.jump]
    go_ret2
    refine ⟨⟨_, rfl, ?_⟩, balloc hHW.out _⟩
    rw [tb_zero]
    exact (Bk.made X n).bto (by simp) (by simp) (by omega) (fun i u hu => by rw [List.getElem?_replicate] at hu; by_cases e : i < n <;> simp [e] at hu; exact hu) (fun x hx => by have := (List.mem_replicate.1 hx).2; omega)
  case pass =>
    rintro _ _ h
    exact h.elim
set_option maxRecDepth 100000 in
set_option maxHeartbeats 4000000 in
theorem power_good (B : Nat) (x1 x2 x3 : Option Addr) (c1 c2 c3 : Nat) (al nl ml : List Nat) (w : World) (h1 : al.length ≤ 128) (h2 : nl.length ≤ 128) (h3 : ml.length ≤ 128)
    (ha : Bto B w (.slice x1 al.length c1) al) (hn : Bto B w (.slice x2 nl.length c2) nl) (hm : Bto B w (.slice x3 ml.length c3) ml) (hz : dz ml ≠ []) :
    Calls Tryd.prog 9 #[.slice x1 al.length c1, .slice x2 nl.length c2, .slice x3 ml.length c3] w fun e w' => (∃ v, e = .returned (.tuple #[v, .int .i64 0]) ∧ Bto w'.heap.size w' v (tb (bv al ^ bv nl % bv ml) ml.length)) ∧ Below w.heap.size w w' := by
  obtain ⟨X, hX⟩ : ∃ X, w.alloc (.cells #[.slice x1 al.length c1, .slice x2 nl.length c2, .slice x3 ml.length c3] 22) = X := ⟨_, rfl⟩
  have hW : Below w.heap.size w X := by rw [← hX]; exact balloc (Below.refl w.heap.size w) _
  have hBk : Blk X w.heap.size 22 #[.slice x1 al.length c1, .slice x2 nl.length c2, .slice x3 ml.length c3] := by rw [← hX]; exact Blk.new w _ _
  have hL := Lib.hid (longest_any w.heap.size al.length c1 nl.length c2 ml.length c3 x1 x2 x3 X hBk)
  have hN := Lib.hid (len_any B _ ml X (by omega) (hm.new hW))
  have hU := Lib.hid (begun_any B x3 c3 ml X h3 (hm.new hW) hz)
  have hA := Lib.hid (And.intro (ha.new hW) (hn.new hW))
  have hb0 : blen ml ≠ 0 := fun e => hz ((blen_zero ml).1 e)
  obtain ⟨q, hq⟩ : ∃ q, blen ml = q := ⟨_, rfl⟩
  rw [hq] at hN hb0
  obtain ⟨n, hn'⟩ : ∃ n, ml.length = n := ⟨_, rfl⟩
  obtain ⟨na, hna⟩ : ∃ n, al.length = n := ⟨_, rfl⟩
  obtain ⟨nn, hnn⟩ : ∃ n, nl.length = n := ⟨_, rfl⟩
  have h1' := h1
  have h2' := h2
  rw [hn', hna, hnn] at hL
  rw [hn', hna, hnn] at hX
  rw [hn'] at hN hU h3 ⊢
  rw [hna] at hA h1' ⊢
  rw [hnn] at hA h2' ⊢
  obtain ⟨m, hm'⟩ : ∃ m, max (max (max 0 na) nn) n = m := ⟨_, rfl⟩
  have hm128 : m ≤ 128 := by omega
  rw [hm'] at hL
  have g1 : ¬ (128 : Int) < (m : Int) := by omega
  have g2 : ((q : Int) == 0) = false := by simp; omega
  have hHX := Lib.hid hX
  have hHW := Lib.hid hW
  have hS := Lib.hid (And.intro h1 (And.intro h2 h3))
  clear hm' hm128 hX hW hBk ha hn hm hz hb0 hn' hna hnn hq h1 h2 h3 h1' h2'
  go_enter Tryd.func9, Tryd.ntmps9
  go_wp2
  refine wp_scope_jumps 0 (fun _ _ => False) (fun _ _ => 0) rfl ?first ?pass
  case first =>
    go_wp2_with (first | (go_at_call 21; rw [hHX.out]; refine hL.out.mono ?_; rintro e w1 ⟨rfl, rfl⟩) | (go_at_call 18; refine hN.out.mono ?_; rintro e w1 ⟨rfl, rfl⟩) | (go_at_call 22; refine hU.out.mono ?_; rintro e w2 ⟨bf, bl, br, k, nr, up, R, rfl, q1, q2, q3, q4, q5, q6, q7, q8, q9, q10⟩; have hP := Lib.hid (mpower_any B x3 n c3 bf bl br k nr up (bv ml * 2 ^ up) (bv ml) _ _ al nl R w2 hS.out.2.2 hS.out.1 hS.out.2.1 (hA.out.1.new q10) (hA.out.2.new q10) q1 q2 rfl q3 q4 q5 q6); have hQ := Lib.hid (And.intro q7 (And.intro q8 (And.intro q9 q10))); clear q1 q2 q3 q4 q5 q6 q7 q8 q9 q10) | (go_at_call 23; refine hP.out.mono ?_; rintro e w3 ⟨v, rfl, hv, hc⟩) | fail)
    simp only [Exit.jump]
    go_ret2
    obtain ⟨q7, q8, q9, q10⟩ := hQ.out
    have hs := hHW.out.size
    exact ⟨⟨_, rfl, hv⟩, (hHW.out.trans (q10.mono (by omega))).trans (hc.below (by have := q10.size; omega) (fun k hk e => by omega))⟩
  case pass =>
    rintro _ _ h
    exact h.elim
theorem power_any (B : Nat) (av nv mv : Value) (al nl ml : List Nat) (w : World) (h1 : al.length ≤ 128) (h2 : nl.length ≤ 128) (h3 : ml.length ≤ 128) (ha : Bto B w av al) (hn : Bto B w nv nl) (hm : Bto B w mv ml) :
    Calls Tryd.prog 9 #[av, nv, mv] w fun e w' => (∃ v, e = .returned (.tuple #[v, .int .i64 0]) ∧ Bto w'.heap.size w' v (tb (pwV al nl ml) ml.length)) ∧ Below w.heap.size w w' := by
  obtain ⟨_, x1, c1, rfl, _⟩ := id ha
  obtain ⟨_, x2, c2, rfl, _⟩ := id hn
  obtain ⟨_, x3, c3, rfl, _⟩ := id hm
  unfold pwV
  by_cases hz : dz ml = []
  · rw [if_pos ((dz_nil ml).1 hz)]
    exact power_nought B x1 x2 x3 _ _ _ _ _ _ w h1 h2 h3 hm hz
  · rw [if_neg (fun e => hz ((dz_nil ml).2 e))]
    exact power_good B x1 x2 x3 _ _ _ al nl ml w h1 h2 h3 ha hn hm hz
theorem Bto.mono {B C : Nat} {X : World} {v : Value} {l : List Nat} (h : Bto B X v l) (hB : B ≤ C) : Bto C X v l := by
  obtain ⟨h1, x, c, h2, h3, h4, h5⟩ := h
  exact ⟨h1, x, c, h2, h3, h4, fun hl => by obtain ⟨b, o, e, hb, hx, hc⟩ := h5 hl; exact ⟨b, o, e, Nat.lt_of_lt_of_le hb hB, hx, hc⟩⟩
set_option maxRecDepth 100000 in
set_option maxHeartbeats 4000000 in
theorem rest_of (B : Nat) (av mv : Value) (al ml : List Nat) (w : World) (h1 : al.length ≤ 128) (h3 : ml.length ≤ 128) (ha : Bto B w av al) (hm : Bto B w mv ml) :
    Calls Tryd.prog 10 #[av, mv] w fun e w' => (∃ v, e = .returned (.tuple #[v, .int .i64 0]) ∧ Bto w'.heap.size w' v (tb (pwV al [1] ml) ml.length)) ∧ Below w.heap.size w w' := by
  obtain ⟨X, hX⟩ : ∃ X, w.alloc (.cells #[.int .u8 1] 5) = X := ⟨_, rfl⟩
  have hW : Below w.heap.size w X := by rw [← hX]; exact balloc (Below.refl w.heap.size w) _
  have hBk : Blk X w.heap.size 5 #[.int .u8 1] := by rw [← hX]; exact Blk.new w _ _
  have hone : Bto (X.heap.size + B) X (.slice (some ⟨w.heap.size, 0, none⟩) 1 1) [1] := by
    refine ⟨by simp, some ⟨w.heap.size, 0, none⟩, 1, rfl, by simp, by simp, fun _ => ⟨w.heap.size, 0, rfl, Nat.lt_of_lt_of_le hBk.lt (Nat.le_add_right _ _), hBk.lt, fun k u hk => ?_⟩⟩
    have hk0 : k = 0 := by
      cases k with
      | zero => rfl
      | succ j => simp at hk
    subst hk0
    simp at hk
    subst hk
    exact (cell_of_row _ _ 0 _ _ _ hBk).trans rfl
  have hP := Lib.hid (power_any (X.heap.size + B) av _ mv al [1] ml X h1 (by simp) h3 ((ha.new hW).mono (Nat.le_add_left _ _)) hone ((hm.new hW).mono (Nat.le_add_left _ _)))
  have hHX := Lib.hid hX
  have hHW := Lib.hid hW
  clear hX hW hBk hone ha hm
  go_enter Tryd.func10, Tryd.ntmps10
  go_wp2_with (first | (go_at_call 9; rw [hHX.out]; refine hP.out.mono ?_; rintro e w1 ⟨⟨v, rfl, hv⟩, hb⟩) | fail)
  trace_state
  go_ret2
  exact ⟨⟨_, rfl, hv⟩, hHW.out.trans (hb.mono hHW.out.size)⟩
end Go.Proofs.YtjkniebedgiclaaDoor
