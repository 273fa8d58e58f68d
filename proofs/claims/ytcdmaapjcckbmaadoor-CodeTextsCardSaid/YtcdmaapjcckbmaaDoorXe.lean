/- code: what ops have (alone, Info). -/
import Derived.Test.YtcdmaapjcckbmaaDoorXd
namespace Go.Proofs.YtcdmaapjcckbmaaDoor
open Go.RowKit Go.Shelf

theorem oi_call {w w1 : World} {cs : Array Value} (hw : Below (w.alloc (.cells cs 25)).heap.size (w.alloc (.cells cs 25)) w1) : Blk w1 w.heap.size 25 cs ∧ Below w.heap.size w w1 :=
  ⟨Blk.keep (Blk.new w _ _) hw, bstep (balloc (Below.refl _ w) _) hw⟩
def set6 (X : World) (g : Nat) (v0 v1 v2 v3 v4 v5 : Value) : World := (((((X.setCell ⟨g, 0, none⟩ v0).setCell ⟨g, 1, none⟩ v1).setCell ⟨g, 2, none⟩ v2).setCell ⟨g, 3, none⟩ v3).setCell ⟨g, 4, none⟩ v4).setCell ⟨g, 5, none⟩ v5
theorem Blk.set6 {X : World} {g : Nat} {t : TypeId} {a0 a1 a2 a3 a4 a5 : Value} (h : Blk X g t #[a0, a1, a2, a3, a4, a5]) (v0 v1 v2 v3 v4 v5 : Value) : Blk (set6 X g v0 v1 v2 v3 v4 v5) g t #[v0, v1, v2, v3, v4, v5] := by
  have h0 := heap_setCell_same X g 0 _ _ v0 h
  have h1 := heap_setCell_same _ g 1 _ _ v1 h0
  have h2 := heap_setCell_same _ g 2 _ _ v2 h1
  have h3 := heap_setCell_same _ g 3 _ _ v3 h2
  have h4 := heap_setCell_same _ g 4 _ _ v4 h3
  exact heap_setCell_same _ g 5 _ _ v5 h4
theorem below_set6 {n : Nat} {w X : World} {g : Nat} (h : Below n w X) (hg : n ≤ g) (v0 v1 v2 v3 v4 v5 : Value) : Below n w (set6 X g v0 v1 v2 v3 v4 v5) :=
  (((((h.setCell (p := ⟨g, 0, none⟩) hg v0).setCell (p := ⟨g, 1, none⟩) hg v1).setCell (p := ⟨g, 2, none⟩) hg v2).setCell (p := ⟨g, 3, none⟩) hg v3).setCell (p := ⟨g, 4, none⟩) hg v4).setCell (p := ⟨g, 5, none⟩) hg v5
/-- The end of a function that answers an op's row which lies in a new box. -/
theorem ret_oi {fn : Func} {p : Tmp} {tmps : Array Value} {X : World} {g : Nat} {cs : Array Value} (h : fn.results = #[.cell p 25]) (hp : tmps.getD p undef = .pointer (some ⟨g, 0, none⟩)) (hb : Blk X g 25 cs) (hs : cs.size = 6) : (results fn tmps).run Tryd.prog X = .ok (.agg cs) X :=
  results_cell_row h _ _ g 25 cs (0, 0) (.struct oiFs) hp hb undOI rfl (by rw [szOI, hs])
set_option maxRecDepth 100000 in
set_option maxHeartbeats 2000000 in
theorem alone_any (n : Nat) (hn : n < 256) (w : World) : Calls Tryd.prog 28 #[.int .u8 n] w fun e w' => e = .returned (.agg (oiC (alO n))) ∧ Below w.heap.size w w' := by
  have H1 := Lib.hid (computing_any n hn)
  have H2 := Lib.hid (asking_any n hn)
  have H3 := Lib.hid (doing_any n hn)
  by_cases c0 : n < 48
  · have hE : alO n = cpO n := by unfold alO; repeat (first | rw [if_pos (by omega)] | rw [if_neg (by omega)])
    have p0 : (n : Int) < 48 := by omega
    rw [hE]
    clear hE hn c0
    generalize hX : cpO n = X at *
    clear hX
    simp only [oiC] at H1 ⊢
    generalize (ByteArray.mk X.nm.toArray) = x0 at *
    go_enter Tryd.func28, Tryd.ntmps28
    go_wp2_with (first | (go_at_call 55; refine (H1.out _).mono ?_; rintro e w1 ⟨rfl, hw⟩; have hb := (oi_call hw).1; have c0 := cell_of_row w1 _ 0 _ _ _ hb; have c1 := cell_of_row w1 _ 1 _ _ _ hb; have c2 := cell_of_row w1 _ 2 _ _ _ hb; have c3 := cell_of_row w1 _ 3 _ _ _ hb; have c4 := cell_of_row w1 _ 4 _ _ _ hb; have c5 := cell_of_row w1 _ 5 _ _ _ hb; have f0 := frozen_of_row w1 _ 0 _ _ hb; have f1 := frozen_of_row w1 _ 1 _ _ hb; have f2 := frozen_of_row w1 _ 2 _ _ hb; have f3 := frozen_of_row w1 _ 3 _ _ hb; have f4 := frozen_of_row w1 _ 4 _ _ hb; have f5 := frozen_of_row w1 _ 5 _ _ hb; have HH := Lib.hid (oi_call hw); clear hb hw) | fail)
    (try simp only [Exit.inBlock, Exit.then])
    refine bodyPost_ret (ret_oi rfl rfl (Blk.set6 HH.out.1 _ _ _ _ _ _) rfl) rfl ?_
    exact ⟨rfl, below_set6 HH.out.2 (Nat.le_refl _) _ _ _ _ _ _⟩
  by_cases c1 : n < 80
  · have hE : alO n = akO n := by unfold alO; repeat (first | rw [if_pos (by omega)] | rw [if_neg (by omega)])
    have p0 : ¬ (n : Int) < 48 := by omega
    have p1 : (n : Int) < 80 := by omega
    rw [hE]
    clear hE hn c0 c1
    generalize hX : akO n = X at *
    clear hX
    simp only [oiC] at H2 ⊢
    generalize (ByteArray.mk X.nm.toArray) = x0 at *
    go_enter Tryd.func28, Tryd.ntmps28
    go_wp2_with (first | (go_at_call 56; refine (H2.out _).mono ?_; rintro e w1 ⟨rfl, hw⟩; have hb := (oi_call hw).1; have c0 := cell_of_row w1 _ 0 _ _ _ hb; have c1 := cell_of_row w1 _ 1 _ _ _ hb; have c2 := cell_of_row w1 _ 2 _ _ _ hb; have c3 := cell_of_row w1 _ 3 _ _ _ hb; have c4 := cell_of_row w1 _ 4 _ _ _ hb; have c5 := cell_of_row w1 _ 5 _ _ _ hb; have f0 := frozen_of_row w1 _ 0 _ _ hb; have f1 := frozen_of_row w1 _ 1 _ _ hb; have f2 := frozen_of_row w1 _ 2 _ _ hb; have f3 := frozen_of_row w1 _ 3 _ _ hb; have f4 := frozen_of_row w1 _ 4 _ _ hb; have f5 := frozen_of_row w1 _ 5 _ _ hb; have HH := Lib.hid (oi_call hw); clear hb hw) | fail)
    (try simp only [Exit.inBlock, Exit.then])
    refine bodyPost_ret (ret_oi rfl rfl (Blk.set6 HH.out.1 _ _ _ _ _ _) rfl) rfl ?_
    exact ⟨rfl, below_set6 HH.out.2 (Nat.le_refl _) _ _ _ _ _ _⟩
  have hE : alO n = dnO n := by unfold alO; repeat (first | rw [if_pos (by omega)] | rw [if_neg (by omega)])
  have p0 : ¬ (n : Int) < 48 := by omega
  have p1 : ¬ (n : Int) < 80 := by omega
  rw [hE]
  clear hE hn c0 c1
  generalize hX : dnO n = X at *
  clear hX
  simp only [oiC] at H3 ⊢
  generalize (ByteArray.mk X.nm.toArray) = x0 at *
  go_enter Tryd.func28, Tryd.ntmps28
  go_wp2_with (first | (go_at_call 57; refine (H3.out _).mono ?_; rintro e w1 ⟨rfl, hw⟩; have hb := (oi_call hw).1; have c0 := cell_of_row w1 _ 0 _ _ _ hb; have c1 := cell_of_row w1 _ 1 _ _ _ hb; have c2 := cell_of_row w1 _ 2 _ _ _ hb; have c3 := cell_of_row w1 _ 3 _ _ _ hb; have c4 := cell_of_row w1 _ 4 _ _ _ hb; have c5 := cell_of_row w1 _ 5 _ _ _ hb; have f0 := frozen_of_row w1 _ 0 _ _ hb; have f1 := frozen_of_row w1 _ 1 _ _ hb; have f2 := frozen_of_row w1 _ 2 _ _ hb; have f3 := frozen_of_row w1 _ 3 _ _ hb; have f4 := frozen_of_row w1 _ 4 _ _ hb; have f5 := frozen_of_row w1 _ 5 _ _ hb; have HH := Lib.hid (oi_call hw); clear hb hw) | fail)
  (try simp only [Exit.inBlock, Exit.then])
  refine bodyPost_ret (ret_oi rfl rfl (Blk.set6 HH.out.1 _ _ _ _ _ _) rfl) rfl ?_
  exact ⟨rfl, below_set6 HH.out.2 (Nat.le_refl _) _ _ _ _ _ _⟩
end Go.Proofs.YtcdmaapjcckbmaaDoor
