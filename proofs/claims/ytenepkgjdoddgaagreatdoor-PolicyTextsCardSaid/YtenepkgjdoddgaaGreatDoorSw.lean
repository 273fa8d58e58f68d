/- policy's laws: what is between the ends of lines, each with its number. -/
import Derived.Test.YtenepkgjdoddgaaGreatDoorPf
import Derived.Test.YtenepkgjdoddgaaGreatDoorTn
namespace Go.Proofs.YtenepkgjdoddgaaGreatDoor
open Go.RowKit Go.Shelf

attribute [local go_sem] Oper.semAt_some
theorem rnd_at {F : Fence} {n : Nat} {P : Program} {l : Nat} {f : FuncId} {tmps : Array Value} {assign body : Code} {w : World} {R : Ending → World → Prop} (k : Nat) (h : RoundIn F n P l f tmps assign body w R) : RoundIn (F.inRound k) n P l f tmps assign body w R := h
theorem next_zip {α : Type} {L pre : List α} {x : α} (h : NextOf L pre x) : NextOf L.zipIdx pre.zipIdx (x, pre.length) ∧ (pre ++ [x]).zipIdx = pre.zipIdx ++ [(x, pre.length)] := by
  obtain ⟨k, rfl, hx⟩ := h
  have hk : k < L.length := (List.getElem?_eq_some_iff.1 hx).1
  have e2 : (L.take k ++ [x]).zipIdx = (L.take k).zipIdx ++ [(x, (L.take k).length)] := by rw [List.zipIdx_append]; simp
  refine ⟨⟨k, ?_, ?_⟩, e2⟩
  · have hL : L = L.take k ++ L.drop k := (List.take_append_drop k L).symm
    have h1 : L.zipIdx = (L.take k).zipIdx ++ (L.drop k).zipIdx (0 + (L.take k).length) := by conv => lhs; rw [hL, List.zipIdx_append]
    rw [h1, List.take_left' (by simp; omega)]
  · rw [List.getElem?_zipIdx, hx]
    simp
    omega
theorem splitSeq_any (s p : ByteArray) (w : World) : Calls Tryz.prog 88 #[.string s, .string p] w fun e w' => e = .returned (.func (.func 139) #[] #[.pointer (some ⟨w.heap.size + 1, 0, none⟩), .pointer (some ⟨w.heap.size, 0, none⟩), .pointer (some ⟨w.heap.size + 1 + 1, 0, none⟩)]) ∧ w' = ((w.alloc (.cells #[.string s] 9)).alloc (.cells #[.string p] 9)).alloc (.cells #[.int .i64 0] 3) := by
  have hmf : ∀ (fn : Fn) (first cap : Array Value) (w : World), (Instr.makeFunc fn first cap).run Tryz.prog w = .ok (.func fn first cap) w := fun _ _ _ _ => rfl
  go_enter Tryz.func88, Tryz.ntmps88
  go_wp2
  go_ret
  exact ⟨rfl, rfl⟩
theorem pieces_fn (s : ByteArray) (w : World) : Calls Tryz.prog 56 #[.string s] w fun e w' => e = .returned (.func (.func 87) #[] #[.pointer (some ⟨w.heap.size, 0, none⟩)]) ∧ w' = w.alloc (.cells #[.string s] 9) := by
  have hmf : ∀ (fn : Fn) (first cap : Array Value) (w : World), (Instr.makeFunc fn first cap).run Tryz.prog w = .ok (.func fn first cap) w := fun _ _ _ _ => rfl
  go_enter Tryz.func56, Tryz.ntmps56
  go_wp2
  go_ret
  exact ⟨rfl, rfl⟩

set_option maxRecDepth 100000 in
set_option maxHeartbeats 4000000 in
theorem pieces_in (n : Nat) (hn : 5 ≤ n) (l S n₀ : Nat) (s : ByteArray) (J Jx : List (ByteArray × Nat) → World → Prop) (w : World) (hs : s.size < 4294967281) (hn₀ : n₀ ≤ w.heap.size)
    (hS : Blk w S 9 #[.string s]) (hJ : StayM (Hq (fun _ => False) 7 w.heap.size) J) (hJx : StayM (Hq (fun _ => False) 7 w.heap.size) Jx)
    (hY : ∀ pre (x : ByteArray × Nat) X, NextOf (pcs 10 s).zipIdx pre x → w.heap.size + 7 ≤ X.heap.size → J pre X → YieldAt Fence.wide 0 Tryz.prog l #[.int .i64 (x.2 : Nat), .string x.1] X fun e Y => (e = .returned (.bool true) ∧ J (pre ++ [x]) Y ∧ KeptM (Hq (fun _ => False) 7 w.heap.size) X Y ∧ Below n₀ X Y) ∨ (e = .returned (.bool false) ∧ Jx (pre ++ [x]) Y ∧ KeptM (Hq (fun _ => False) 7 w.heap.size) X Y))
    (h0 : J [] w) :
    CallsIn Fence.wide n Tryz.prog 87 #[.func (.yield l) #[] #[], .pointer (some ⟨S, 0, none⟩)] w fun e Y => (∃ v, e = .returned v) ∧
      ((∃ xs, xs = (pcs 10 s).zipIdx ∧ J xs Y) ∨ (∃ pre, True ∧ Jx pre Y)) := by
  refine callsIn_of_wp_marks Tryz.func87 rfl trivial ?_ rfl
  simp only [Tryz.ntmps87, List.size_toArray, List.length_cons, List.length_nil, Nat.reduceAdd, Nat.reduceSub, Array.replicate_succ, Array.replicate_zero, List.push_toArray, List.append_toArray, List.nil_append, List.cons_append]
  have c0 : w.cell? ⟨S, 0, none⟩ = some (.string s) := cell_of_row w _ 0 _ _ _ hS
  have hlS := hS.lt
  have HY := Lib.hid hY
  clear hY hS
  gi_wp2_with fail
  refine ⟨trivial, fun _ => by omega, ?_⟩
  refine (callsIn_wide.2 (splitSeq_any s ⟨#[10]⟩ _)).mono ?_
  rintro e V ⟨rfl, rfl⟩
  simp only [World.size_alloc]
  have hW := balloc (balloc (balloc (balloc (balloc (Below.refl w.heap.size w) (.cells #[.func (.yield l) #[] #[]] 98)) (.cells #[.int .i64 0] 3)) (.cells #[.string s] 9)) (.cells #[.string ⟨#[10]⟩] 9)) (.cells #[.int .i64 0] 3)
  have hj := hJ.alloc (.cells #[.int .i64 0] 3) (hJ.alloc (.cells #[.string ⟨#[10]⟩] 9) (hJ.alloc (.cells #[.string s] 9) (hJ.alloc (.cells #[.int .i64 0] 3) (hJ.alloc (.cells #[.func (.yield l) #[] #[]] 98) h0))))
  have k0 := ((((Blk.new w 98 #[.func (.yield l) #[] #[]]).alloc (.cells #[.int .i64 0] 3)).alloc (.cells #[.string s] 9)).alloc (.cells #[.string ⟨#[10]⟩] 9)).alloc (.cells #[.int .i64 0] 3)
  have k1 := (((Blk.new (w.alloc (.cells #[.func (.yield l) #[] #[]] 98)) 3 #[.int .i64 0]).alloc (.cells #[.string s] 9)).alloc (.cells #[.string ⟨#[10]⟩] 9)).alloc (.cells #[.int .i64 0] 3)
  have k2 := ((Blk.new ((w.alloc (.cells #[.func (.yield l) #[] #[]] 98)).alloc (.cells #[.int .i64 0] 3)) 9 #[.string s]).alloc (.cells #[.string ⟨#[10]⟩] 9)).alloc (.cells #[.int .i64 0] 3)
  have k3 := (Blk.new (((w.alloc (.cells #[.func (.yield l) #[] #[]] 98)).alloc (.cells #[.int .i64 0] 3)).alloc (.cells #[.string s] 9)) 9 #[.string ⟨#[10]⟩]).alloc (.cells #[.int .i64 0] 3)
  have k4 := Blk.new ((((w.alloc (.cells #[.func (.yield l) #[] #[]] 98)).alloc (.cells #[.int .i64 0] 3)).alloc (.cells #[.string s] 9)).alloc (.cells #[.string ⟨#[10]⟩] 9)) 3 #[.int .i64 0]
  have hsz : (((((w.alloc (.cells #[.func (.yield l) #[] #[]] 98)).alloc (.cells #[.int .i64 0] 3)).alloc (.cells #[.string s] 9)).alloc (.cells #[.string ⟨#[10]⟩] 9)).alloc (.cells #[.int .i64 0] 3)).heap.size = w.heap.size + 5 := by simp
  simp only [World.size_alloc] at k1 k2 k3 k4
  obtain ⟨W0, hW0⟩ : ∃ W0, ((((w.alloc (.cells #[.func (.yield l) #[] #[]] 98)).alloc (.cells #[.int .i64 0] 3)).alloc (.cells #[.string s] 9)).alloc (.cells #[.string ⟨#[10]⟩] 9)).alloc (.cells #[.int .i64 0] 3) = W0 := ⟨_, rfl⟩
  rw [hW0] at hW hj k0 k1 k2 k3 k4 hsz ⊢
  clear hW0 h0 c0
  gi_wp2_with fail
  refine wpIn_rangeQ (n := n) (by omega) (gf := 139) (lb := #[.pointer (some ⟨w.heap.size + 1 + 1 + 1, 0, none⟩), .pointer (some ⟨w.heap.size + 1 + 1, 0, none⟩), .pointer (some ⟨w.heap.size + 1 + 1 + 1 + 1, 0, none⟩)]) rfl (enters_of Tryz.func139 (by kernel_rfl) rfl)
    (splitSeq_seq (n - 1) (by omega) (w.heap.size + 1 + 1 + 1) (w.heap.size + 1 + 1) (w.heap.size + 1 + 1 + 1 + 1) n₀ 10 s W0 hs (by omega) ⟨k3, k2, k4⟩) (Below.refl _ _) (by omega) (fun k h => by omega) (fun _ => rfl)
    (fun pre X => (J pre.zipIdx X ∧ Blk X w.heap.size 98 #[.func (.yield l) #[] #[]]) ∧ Blk X (w.heap.size + 1) 3 #[.int .i64 (pre.length : Nat)])
    (fun c pre X => c = .ret ∧ Jx pre.zipIdx X)
    ?hI ?hIx ⟨⟨hj, k0⟩, k1⟩
    (fun x a' X => a' = { tmps := #[.func (.yield l) #[] #[], .pointer (some ⟨S, 0, none⟩), .pointer (some ⟨w.heap.size, 0, none⟩), .pointer (some ⟨w.heap.size + 1, 0, none⟩), .string x, .string s, .func (.func 139) #[] #[.pointer (some ⟨w.heap.size + 1 + 1 + 1, 0, none⟩), .pointer (some ⟨w.heap.size + 1 + 1, 0, none⟩), .pointer (some ⟨w.heap.size + 1 + 1 + 1 + 1, 0, none⟩)], .string x, undef, undef, undef, undef, undef, undef, undef], defers := [] })
    (fun x a' _ X Y row hs hg hr => hs)
    ?assign ?body ?done ?stop
  case assign =>
    rintro l2 pre x X K hgd hXs hi hK
    gi_wp2_with fail
    exact hK _ _ (KeptM.refl _ _) (Below.refl _ _) hi rfl
  case body =>
    rintro l2 pre x a' X hl2 hgd hXs ⟨⟨hj, hbx⟩, hat⟩ rfl
    have hc : X.cell? ⟨w.heap.size, 0, none⟩ = some (.func (.yield l) #[] #[]) := cell_of_row X _ 0 _ _ _ hbx
    have hm : X.cell? ⟨w.heap.size + 1, 0, none⟩ = some (.int .i64 (pre.length : Nat)) := cell_of_row X _ 0 _ _ _ hat
    obtain ⟨hz1, hz2⟩ := next_zip hgd
    obtain ⟨fn, tmps, assign, body, hy, hR⟩ := YieldAt.wide (m' := n - 1 - 1 - 1) (HY.out pre.zipIdx (x, pre.length) X hz1 (by omega) hj)
    rw [← hz2] at hR
    have HB := Lib.hid (And.intro hbx hat)
    have HL := Lib.hid (And.intro hgd hXs)
    clear hbx hat hgd hz1 hz2 hj hXs
    gi_wp2_with fail
    refine ⟨fun _ => by omega, ?_⟩
    refine RoundIn.mono (rnd_at l2 hR) ?_
    clear hc hm hy hR
    have hq : ∀ k, Hq (fun k => k = w.heap.size + 1 + 1 + 1 ∨ k = w.heap.size + 1 + 1 ∨ k = w.heap.size + 1 + 1 + 1 + 1) 0 (W0.heap.size + 2) k ∨ k = W0.heap.size ∨ k = W0.heap.size + 1 → Hq (fun _ => False) 7 w.heap.size k ∧ k ≠ w.heap.size + 1 := fun k h => by
      rw [hsz] at h
      unfold Hq at *
      omega
    rintro e Y (⟨rfl, hj, hkp, hbl⟩ | ⟨rfl, hjx, hkp⟩)
    · have hbx : Blk Y w.heap.size 98 #[.func (.yield l) #[] #[]] := (hkp.2 _ (.inr (by omega)) HB.out.1.lt).trans HB.out.1
      have hat : Blk Y (w.heap.size + 1) 3 #[.int .i64 (pre.length : Nat)] := (hkp.2 _ (.inr (by omega)) HB.out.2.lt).trans HB.out.2
      have hm : Y.cell? ⟨w.heap.size + 1, 0, none⟩ = some (.int .i64 (pre.length : Nat)) := cell_of_row Y _ 0 _ _ _ hat
      have hf := frozen_of_row Y _ 0 _ _ hat
      have hlen : pre.length + 1 < 4294967285 := by
        obtain ⟨k, hk, hx⟩ := HL.out.1
        have h1 := (List.getElem?_eq_some_iff.1 hx).1
        have h2 := pcs_len 10 s
        have h3 := Lib.countB_le ⟨#[10]⟩ (one1 10) s.size s (Nat.le_refl _)
        rw [hk, List.length_take]
        omega
      have hwr : wrap64 ((pre.length : Int) + 1) = (((pre ++ [x]).length : Nat) : Int) := by rw [IntWalk.wrap64_in _ (by omega), List.length_append]; simp
      have hG := grown_set' (grown_refl Y (w.heap.size + 1)) 0 (.int .i64 ((pre ++ [x]).length : Nat))
      have hE := hJ _ _ _ (some (w.heap.size + 1)) hj hG (fun r e => by cases e; exact .inr (by omega))
      have hK2 : KeptM (fun k => Hq (fun k => k = w.heap.size + 1 + 1 + 1 ∨ k = w.heap.size + 1 + 1 ∨ k = w.heap.size + 1 + 1 + 1 + 1) 0 (W0.heap.size + 2) k ∨ k = W0.heap.size ∨ k = W0.heap.size + 1) X (Y.setCell ⟨w.heap.size + 1, 0, none⟩ (.int .i64 ((pre ++ [x]).length : Nat))) := (hkp.mono (fun k h => (hq k h).1)).trans (KeptM.grown hG (fun r e h => by cases e; exact (hq _ h).2 rfl))
      have hB2 : Below n₀ X (Y.setCell ⟨w.heap.size + 1, 0, none⟩ (.int .i64 ((pre ++ [x]).length : Nat))) := hbl.setCell (p := ⟨w.heap.size + 1, 0, none⟩) (by show n₀ ≤ w.heap.size + 1; omega) _
      have hbx2 := hbx.kept hG (by intro e; have := Option.some.inj e; omega)
      have hat2 := heap_setCell_same Y (w.heap.size + 1) 0 _ _ (.int .i64 ((pre ++ [x]).length : Nat)) hat
      obtain ⟨M, hM⟩ : ∃ M, (pre ++ [x]).length = M := ⟨_, rfl⟩
      rw [hM] at hwr hE hK2 hB2 hbx2 hat2
      have HE := Lib.hid (And.intro hE (And.intro hK2 (And.intro hB2 (And.intro hbx2 (And.intro hat2 hM)))))
      clear hj hkp hbl hbx hat hlen hG hE hK2 hB2 hbx2 hat2 hM HB HL
      generalize pre.length = m at hm hwr
      gi_wp2_with fail
      obtain ⟨hE, hK2, hB2, hbx2, hat2, hM⟩ := HE.out
      refine ⟨hK2, hB2, ⟨hE, hbx2⟩, ?_⟩
      rw [hM]
      exact hat2
    · have HE := Lib.hid (And.intro (hkp.mono (fun k h => (hq k h).1)) hjx)
      clear hkp hjx HB HL
      gi_wp2_with fail
      exact ⟨HE.out.1, rfl, HE.out.2⟩
  case done =>
    rintro D xs X hD hx ⟨⟨hj, _⟩, _⟩ hK
    refine ⟨by simp, .inl ⟨_, _, rfl, run_takeDeferred hK, ?_⟩⟩
    refine ⟨_, results_none rfl _ _ _, ⟨_, rfl⟩, .inl ⟨_, rfl, ?_⟩⟩
    rw [← hx]
    exact hJ.put _ hj (.inr (by omega))
  case stop =>
    rintro D c pre X hD _ ⟨rfl, hx⟩ hK
    gi_wp2
    refine ⟨by simp, .inl ⟨_, _, rfl, run_takeDeferred hK, ?_⟩⟩
    exact ⟨_, results_none rfl _ _ _, ⟨_, rfl⟩, .inr ⟨_, trivial, hJx.put _ hx (.inr (by omega))⟩⟩
  case hI =>
    refine StayM.and (StayM.and ?_ (StayM.blk ?_ _ (fun _ => _))) (StayM.blk ?_ _ (fun pre : List ByteArray => #[Value.int .i64 ((pre.length : Nat) : Int)]))
    · exact fun pre X Y row h hg hr => hJ pre.zipIdx X Y row h hg (fun r e => by have := hr r e; rw [hsz] at this; unfold Hq at *; omega)
    · rw [hsz]; unfold Hq; omega
    · rw [hsz]; unfold Hq; omega
  case hIx =>
    intro c pre X Y row h hg hr
    exact ⟨h.1, hJx pre.zipIdx X Y row h.2 hg (fun r e => by have := hr r e; rw [hsz] at this; unfold Hq at *; omega)⟩
/-- The pieces of a text, each with its number. -/
theorem pieces_seqQ (n : Nat) (hn : 5 ≤ n) (S n₀ : Nat) (s : ByteArray) (w : World) (hs : s.size < 4294967281) (hn₀ : n₀ ≤ w.heap.size) (hS : Blk w S 9 #[.string s]) :
    SeqQ n Tryz.prog 87 #[.pointer (some ⟨S, 0, none⟩)] (fun x : ByteArray × Nat => #[.int .i64 (x.2 : Nat), .string x.1]) n₀ (fun _ => False) 7 (NextOf (pcs 10 s).zipIdx) (fun xs => xs = (pcs 10 s).zipIdx) (fun _ => True) w := fun l J Jx W hW hJ hJx hY h0 =>
  pieces_in n hn l S n₀ s J Jx W hs (Nat.le_trans hn₀ hW.size) (hS.keep hW) hJ hJx hY h0
end Go.Proofs.YtenepkgjdoddgaaGreatDoor
