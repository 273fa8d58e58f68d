/- item: the reference's Word, of items that arguments lay. -/
import Derived.Test.YtjmfnafbjfceoaaDoorJt
namespace Go.Proofs.YtjmfnafbjfceoaaDoor
open Go.RowKit Go.Shelf
attribute [local irreducible] lb wdG byA byC heL
set_option maxRecDepth 100000 in
set_option maxHeartbeats 2000000 in
theorem rread_empty (x : Option Addr) (c : Nat) (w : World) :
    Calls Tryd.prog 43 #[.slice x 0 c] w fun e w' => e = .returned (.tuple #[W 0, .int .i64 0]) ∧ Below w.heap.size w w' := by
  have hi : (Tryd.prog.info? 81).map (·.size) = some (byC 0 32).size := by rw [byC_size]; kernel_rfl
  have HI := Lib.hid hi
  have hu : Tryd.prog.underlying 81 = some (.array 32 5) := by kernel_rfl
  have HU := Lib.hid hu
  have h32 : byC 0 0 = byC 0 32 := (rdC_zero (fun _ => 0) 0).symm.trans (rdC_all (fun _ => 0) 0 (by omega) (fun k hk => by omega))
  have H32 := Lib.hid h32
  clear hi hu h32
  go_enter Tryd.func43, Tryd.ntmps43
  go_wp2_with fail
  go_loopw [5] (fun i wr => i = .int .i64 0 ∧ Blk wr (w.heap.size + 1) 81 (byC 0 32) ∧ Blk wr w.heap.size 47 (Wc 0) ∧ Below w.heap.size w wr) (fun _ _ => 0)
  case atStart =>
    refine ⟨rfl, ?_, ?_, balloc (balloc (Below.refl _ _) _) _⟩
    · rw [← H32.out, byC_zero]; exact Blk.newS _ _ _ _
    · have h := (Blk.new w 47 (Wc 0)).alloc (.cells (byC 0 0) 81)
      rw [byC_zero] at h
      simp only [Wc, lb_zero] at h ⊢
      exact h
  case round =>
    obtain ⟨rfl, hs, hr, hB⟩ := hrel
    have HS := Lib.hid hs
    have HR := Lib.hid hr
    clear hs hr
    go_upto_region 8 with (fail)
    refine wp_region_lit (wpList_load_mid rfl 81 (.tmp 4) rfl (w.heap.size + 1) 0 rfl (byC 0 32).toList _ HS.out.rangeAt HU.out rfl HI.out ?_)
    go_wp2_with (go_at_call 65; refine (rfrom_any 0 _).mono ?_; rintro e wk ⟨rfl, hk⟩; have hr2 := HR.out.keep hk; have hB2 := bstep hB hk; have r0 := (cell_of_row wk _ 0 _ _ _ hr2).trans (wc_get 0 0 (by omega)); have r1 := (cell_of_row wk _ 1 _ _ _ hr2).trans (wc_get 0 1 (by omega)); have r2 := (cell_of_row wk _ 2 _ _ _ hr2).trans (wc_get 0 2 (by omega)); have r3 := (cell_of_row wk _ 3 _ _ _ hr2).trans (wc_get 0 3 (by omega)); have f0 := frozen_of_row wk _ 0 _ _ hr2; have f1 := frozen_of_row wk _ 1 _ _ hr2; have f2 := frozen_of_row wk _ 2 _ _ hr2; have f3 := frozen_of_row wk _ 3 _ _ hr2; clear hr2)
    exact bodyPost_ret (v := .tuple #[W 0, .int .i64 0]) (by simp [results, Tryd.results43, go_sem, r0, r1, r2, r3]) rfl ⟨rfl, (((hB2.setCell (p := ⟨w.heap.size, 0, none⟩) (by simp) _).setCell (p := ⟨w.heap.size, 1, none⟩) (by simp) _).setCell (p := ⟨w.heap.size, 2, none⟩) (by simp) _).setCell (p := ⟨w.heap.size, 3, none⟩) (by simp) _⟩
theorem rread_fitso (B : Nat) (v : Value) (l : List Nat) (w : World) (hv : Bto B w v l) (hl : l.length ≤ 32) :
    Calls Tryd.prog 43 #[v] w fun e w' => e = .returned (.tuple #[W (nuL l), .int .i64 0]) ∧ Below w.heap.size w w' := by
  obtain ⟨h1, x, c, rfl, _, h3, h5⟩ := hv
  by_cases h0 : l = []
  · subst h0
    exact rread_empty x c w
  · obtain ⟨b, o, rfl, _, hb, hc⟩ := h5 h0
    refine rread_any b o l.length c (fun k => l.getD k 0) w hl hb (fun k hk => ?_)
    have hk2 : l[k]? = some (l.getD k 0) := by rw [List.getD_eq_getElem?_getD]; simp [hk]
    exact ⟨h1 _ (List.mem_of_getElem? hk2), hc k _ hk2⟩

set_option maxRecDepth 100000 in
set_option maxHeartbeats 4000000 in
/-- The reference's Word of an item that may not be. -/
theorem rword_not (v : Value) (hvv : ∃ b x m c y n d, v = itW b x m c y n d) (w : World)
    (hM : ∀ X, Below w.heap.size w X → Calls Tryd.prog 29 #[v, .int .i64 8] X fun e w' => e = .returned (.bool false) ∧ Below X.heap.size X w') :
    Calls Tryd.prog 21 #[v] w fun e w' => e = .returned (.tuple #[W 0, .int .i64 2]) ∧ Below w.heap.size w w' := by
  obtain ⟨b, x, m, c, y, n, d, rfl⟩ := hvv
  have hR := Blk.newS w (.cells #[.bool b, .slice x m c, .slice y n d] 25) 47 #[.int .u64 0, .int .u64 0, .int .u64 0, .int .u64 0]
  have hW := balloc (balloc (Below.refl w.heap.size w) (.cells #[.bool b, .slice x m c, .slice y n d] 25)) (.cells #[.int .u64 0, .int .u64 0, .int .u64 0, .int .u64 0] 47)
  have hM1 := Lib.hid (hM _ hW)
  have HX := Lib.hid (And.intro hR hW)
  clear hM hR hW
  rw [W_zero]
  go_enter Tryd.func21, Tryd.ntmps21
  go_wp2_with fail
  refine hM1.out.mono ?_
  rintro e w1 ⟨rfl, h1⟩
  have hr := HX.out.1.keep h1
  have H1 := Lib.hid (bstep HX.out.2 h1)
  have f0 := frozen_of_row _ _ 0 _ _ hr
  have f1 := frozen_of_row _ _ 1 _ _ hr
  have f2 := frozen_of_row _ _ 2 _ _ hr
  have f3 := frozen_of_row _ _ 3 _ _ hr
  have r0 := cell_of_row _ _ 0 _ _ _ hr
  have r1 := cell_of_row _ _ 1 _ _ _ hr
  have r2 := cell_of_row _ _ 2 _ _ _ hr
  have r3 := cell_of_row _ _ 3 _ _ _ hr
  clear HX h1 hr hM1
  go_wp2_with fail
  exact bodyPost_ret (v := .tuple #[.agg #[.int .u64 0, .int .u64 0, .int .u64 0, .int .u64 0], .int .i64 2]) (by simp [results, Tryd.results21, go_sem, r0, r1, r2, r3]) rfl ⟨rfl, step_world H1.out (gset4 _ (w.heap.size + 1) _ _ _ _) (Nat.le_refl _) (by omega)⟩

set_option maxRecDepth 100000 in
set_option maxHeartbeats 4000000 in
/-- The reference's Word of an item that may be. -/
theorem rword_may (b : Bool) (l : List Nat) (x : Option Addr) (c : Nat) (y : Option Addr) (n d : Nat) (B : Nat) (w : World) (hv : Bto B w (.slice x l.length c) l) (hl : l.length ≤ 100000)
    (hM : ∀ X, Below w.heap.size w X → Calls Tryd.prog 29 #[itW b x l.length c y n d, .int .i64 8] X fun e w' => e = .returned (.bool true) ∧ Below X.heap.size X w') :
    Calls Tryd.prog 21 #[itW b x l.length c y n d] w fun e w' => e = .returned (.tuple #[W (woS b l).1, .int .i64 ((woS b l).2 : Nat)]) ∧ Below w.heap.size w w' := by
  have hI := (Blk.new w 25 #[.bool b, .slice x l.length c, .slice y n d]).alloc (.cells #[.int .u64 0, .int .u64 0, .int .u64 0, .int .u64 0] 47)
  have hR := Blk.newS w (.cells #[.bool b, .slice x l.length c, .slice y n d] 25) 47 #[.int .u64 0, .int .u64 0, .int .u64 0, .int .u64 0]
  have hW := balloc (balloc (Below.refl w.heap.size w) (.cells #[.bool b, .slice x l.length c, .slice y n d] 25)) (.cells #[.int .u64 0, .int .u64 0, .int .u64 0, .int .u64 0] 47)
  have hM1 := Lib.hid (hM _ hW)
  have HB := Lib.hid hv
  obtain ⟨wv, hwv⟩ : ∃ wv, woS b l = wv := ⟨_, rfl⟩
  have HWV := Lib.hid hwv
  rw [hwv]
  have HX := Lib.hid (And.intro hI (And.intro hR hW))
  clear hM hI hR hW hv hwv
  obtain ⟨m, hm⟩ : ∃ m, l.length = m := ⟨_, rfl⟩
  have HM := Lib.hid hm
  rw [hm] at hM1 HX HB hl ⊢
  clear hm
  go_enter Tryd.func21, Tryd.ntmps21
  go_wp2_with fail
  refine hM1.out.mono ?_
  rintro e w1 ⟨rfl, h1⟩
  obtain ⟨hI, hR, hW⟩ := HX.out
  have hI1 := hI.keep h1
  have hR1 := hR.keep h1
  have hW1 := bstep hW h1
  have k0 : w1.cell? ⟨w.heap.size, 0, none⟩ = some (.bool b) := cell_of_row w1 _ 0 _ _ _ hI1
  have k1 : w1.cell? ⟨w.heap.size, 1, none⟩ = some (.slice x m c) := cell_of_row w1 _ 1 _ _ _ hI1
  have f0 := frozen_of_row w1 _ 0 _ _ hR1
  have f1 := frozen_of_row w1 _ 1 _ _ hR1
  have f2 := frozen_of_row w1 _ 2 _ _ hR1
  have f3 := frozen_of_row w1 _ 3 _ _ hR1
  have r0 := cell_of_row w1 _ 0 _ _ _ hR1
  have r1 := cell_of_row w1 _ 1 _ _ _ hR1
  have r2 := cell_of_row w1 _ 2 _ _ _ hR1
  have r3 := cell_of_row w1 _ 3 _ _ _ hR1
  have hB1 := HB.out.new hW1
  have H1 := Lib.hid (And.intro hI1 (And.intro hR1 (And.intro hW1 hB1)))
  clear hI hR hW hI1 hR1 hW1 h1 hM1 HX hB1
  have hzero : wv = (0, 160) → Ending.returned (.tuple #[.agg #[.int .u64 0, .int .u64 0, .int .u64 0, .int .u64 0], .int .i64 160]) = Ending.returned (.tuple #[W wv.1, .int .i64 (wv.2 : Nat)]) := fun h => by rw [h, show W ((0, 160) : Nat × Nat).1 = _ from W_zero]; rfl
  have HZ := Lib.hid hzero
  clear hzero
  have hread : b = false → l.head? ≠ some 0 → m ≤ 32 → wv = (nuL l, 0) := fun hb hh hm => by
    rw [← HWV.out]; unfold woS; rw [hb, HM.out, show decide (l.head? = some 0) = false from decide_eq_false hh, show decide (32 < m) = false from decide_eq_false (by omega)]; rfl
  cases b with
  | true =>
    have hwv : wv = (0, 160) := by rw [← HWV.out]; rfl
    have HV := Lib.hid (HZ.out hwv)
    clear hwv hread
    go_wp2_with fail
    exact bodyPost_ret (v := .tuple #[.agg #[.int .u64 0, .int .u64 0, .int .u64 0, .int .u64 0], .int .i64 160]) (by simp [results, Tryd.results21, go_sem, r0, r1, r2, r3]) rfl ⟨HV.out, step_world H1.out.2.2.1 (gset4 w1 (w.heap.size + 1) _ _ _ _) (Nat.le_refl _) (by omega)⟩
  | false =>
    by_cases h32 : 32 < m
    · have hwv : wv = (0, 160) := by rw [← HWV.out]; unfold woS; rw [HM.out, show decide (32 < m) = true from decide_eq_true h32]; simp
      have g32 : (32 : Int) < (m : Int) := by omega
      have HV := Lib.hid (HZ.out hwv)
      clear hwv hread h32
      go_wp2_with fail
      exact bodyPost_ret (v := .tuple #[.agg #[.int .u64 0, .int .u64 0, .int .u64 0, .int .u64 0], .int .i64 160]) (by simp [results, Tryd.results21, go_sem, r0, r1, r2, r3]) rfl ⟨HV.out, step_world H1.out.2.2.1 (gset4 w1 (w.heap.size + 1) _ _ _ _) (Nat.le_refl _) (by omega)⟩
    · have g32 : ¬ (32 : Int) < (m : Int) := by omega
      have hC := rread_fitso B (.slice x m c) l w1 H1.out.2.2.2 (by rw [HM.out]; omega)
      have HC := Lib.hid hC
      clear hC
      by_cases h0 : m = 0
      · have hwv := hread rfl (by have : l = [] := List.length_eq_zero_iff.1 (by rw [HM.out, h0]); rw [this]; simp) (by omega)
        subst h0
        have HV := Lib.hid hwv
        obtain ⟨a, ha⟩ : ∃ a, nuL l = a := ⟨_, rfl⟩
        rw [ha] at HV HC
        have HE := Lib.hid (And.intro H1.out.2.1 H1.out.2.2.1)
        clear hwv hread h32 ha H1
        go_wp2_with fail
        refine HC.out.mono ?_
        clear r0 r1 r2 r3 f0 f1 f2 f3 k0 k1 HC
        rintro e w3 ⟨rfl, h3⟩
        have hr := (HE.out.1.keep h3).alloc (.cells (Wc a) 47)
        have hW3 := balloc (bstep HE.out.2 h3) (.cells (Wc a) 47)
        have hA := Blk.new w3 47 (Wc a)
        have f0 := frozen_of_row _ _ 0 _ _ hr
        have f1 := frozen_of_row _ _ 1 _ _ hr
        have f2 := frozen_of_row _ _ 2 _ _ hr
        have f3 := frozen_of_row _ _ 3 _ _ hr
        have r0 := cell_of_row _ _ 0 _ _ _ hr
        have r1 := cell_of_row _ _ 1 _ _ _ hr
        have r2 := cell_of_row _ _ 2 _ _ _ hr
        have r3 := cell_of_row _ _ 3 _ _ _ hr
        have a0 := (cell_of_row _ _ 0 _ _ _ hA).trans (wc_get a 0 (by omega))
        have a1 := (cell_of_row _ _ 1 _ _ _ hA).trans (wc_get a 1 (by omega))
        have a2 := (cell_of_row _ _ 2 _ _ _ hA).trans (wc_get a 2 (by omega))
        have a3 := (cell_of_row _ _ 3 _ _ _ hA).trans (wc_get a 3 (by omega))
        have HW3 := Lib.hid hW3
        clear hr hA hW3 h3 HE
        go_wp2_with fail
        exact bodyPost_ret (v := .tuple #[W a, .int .i64 0]) (by simp [results, Tryd.results21, go_sem, r0, r1, r2, r3]) rfl ⟨by rw [HV.out]; rfl, step_world HW3.out (gset4 _ (w.heap.size + 1) _ _ _ _) (Nat.le_refl _) (by omega)⟩
      · obtain ⟨z, rs, hzl⟩ : ∃ z rs, l = z :: rs := by
          cases l with
          | nil => exact (h0 (by rw [← HM.out]; rfl)).elim
          | cons z rs => exact ⟨z, rs, rfl⟩
        have g0 : (0 : Int) < (m : Int) := by omega
        have g00 : 0 < m := by omega
        obtain ⟨hzb, hcz⟩ : z < 256 ∧ ∃ b o, x = some ⟨b, o, none⟩ ∧ w1.cell? ⟨b, o, none⟩ = some (.int .u8 (z : Nat)) := by
          obtain ⟨q1, x', c', he, _, _, q5⟩ := H1.out.2.2.2
          obtain ⟨b, o, e, _, _, hc⟩ := q5 (by rw [hzl]; simp)
          cases he
          exact ⟨q1 z (by rw [hzl]; simp), b, o, e, hc 0 z (by rw [hzl]; rfl)⟩
        obtain ⟨bb, o, rfl, hcz⟩ := hcz
        by_cases hz0 : z = 0
        · have hwv : wv = (0, 160) := by rw [← HWV.out]; unfold woS; rw [hzl, hz0]; rfl
          have HV := Lib.hid (HZ.out hwv)
          subst hz0
          clear hwv hread hzl
          go_wp2_with fail
          exact bodyPost_ret (v := .tuple #[.agg #[.int .u64 0, .int .u64 0, .int .u64 0, .int .u64 0], .int .i64 160]) (by simp [results, Tryd.results21, go_sem, r0, r1, r2, r3]) rfl ⟨HV.out, step_world H1.out.2.2.1 (gset4 w1 (w.heap.size + 1) _ _ _ _) (Nat.le_refl _) (by omega)⟩
        · have hwv := hread rfl (by rw [hzl]; simp; exact hz0) (by omega)
          have gz : ¬ (z : Int) = 0 := by omega
          have gz2 : ((z : Int) == 0) = false := by simpa using gz
          have HV := Lib.hid hwv
          obtain ⟨a, ha⟩ : ∃ a, nuL l = a := ⟨_, rfl⟩
          rw [ha] at HV HC
          have HE := Lib.hid (And.intro H1.out.2.1 H1.out.2.2.1)
          clear hwv hread h32 ha hzl H1
          go_wp2_with fail
          refine HC.out.mono ?_
          clear r0 r1 r2 r3 f0 f1 f2 f3 k0 k1 hcz HC
          rintro e w3 ⟨rfl, h3⟩
          have hr := (HE.out.1.keep h3).alloc (.cells (Wc a) 47)
          have hW3 := balloc (bstep HE.out.2 h3) (.cells (Wc a) 47)
          have hA := Blk.new w3 47 (Wc a)
          have f0 := frozen_of_row _ _ 0 _ _ hr
          have f1 := frozen_of_row _ _ 1 _ _ hr
          have f2 := frozen_of_row _ _ 2 _ _ hr
          have f3 := frozen_of_row _ _ 3 _ _ hr
          have r0 := cell_of_row _ _ 0 _ _ _ hr
          have r1 := cell_of_row _ _ 1 _ _ _ hr
          have r2 := cell_of_row _ _ 2 _ _ _ hr
          have r3 := cell_of_row _ _ 3 _ _ _ hr
          have a0 := (cell_of_row _ _ 0 _ _ _ hA).trans (wc_get a 0 (by omega))
          have a1 := (cell_of_row _ _ 1 _ _ _ hA).trans (wc_get a 1 (by omega))
          have a2 := (cell_of_row _ _ 2 _ _ _ hA).trans (wc_get a 2 (by omega))
          have a3 := (cell_of_row _ _ 3 _ _ _ hA).trans (wc_get a 3 (by omega))
          have HW3 := Lib.hid hW3
          clear hr hA hW3 h3 HE
          go_wp2_with fail
          exact bodyPost_ret (v := .tuple #[W a, .int .i64 0]) (by simp [results, Tryd.results21, go_sem, r0, r1, r2, r3]) rfl ⟨by rw [HV.out]; rfl, step_world HW3.out (gset4 _ (w.heap.size + 1) _ _ _ _) (Nat.le_refl _) (by omega)⟩
theorem rword_itemo (t : It) (v : Value) (B : Nat) (w : World) (hB : B ≤ w.heap.size) (hv : ItO B w t v) (hsm : smT t) :
    Calls Tryd.prog 21 #[v] w fun e w' => e = .returned (.tuple #[W (woT t).1, .int .i64 ((woT t).2 : Nat)]) ∧ Below w.heap.size w w' := by
  have hM : ∀ X, Below w.heap.size w X → Calls Tryd.prog 29 #[v, .int .i64 8] X fun e w' => e = .returned (.bool (rtB 8 t)) ∧ Below X.heap.size X w' := fun X hX =>
    rright_o 8 (Nat.le_refl _) t v B X (Nat.le_trans hB hX.size) (hv.new hX) hsm
  cases hr : rtB 8 t with
  | false =>
    rw [hr] at hM
    have e : woT t = (0, 2) := by
      cases t with
      | mk b l ts =>
        show (if rtB 8 (.mk b l ts) then woS b l else (0, 2)) = _
        rw [hr]; rfl
    rw [e]
    exact rword_not v hv.is w hM
  | true =>
    rw [hr] at hM
    cases hv with
    | mk b l ts v1 iv vs h1 h2 hlv hs =>
      have e : woT (.mk b l ts) = woS b l := by
        show (if rtB 8 (.mk b l ts) then woS b l else (0, 2)) = _
        rw [hr]; rfl
      rw [e]
      obtain ⟨_, x, c, rfl, _⟩ := id h1
      obtain ⟨y, d, rfl, _⟩ := h2
      exact rword_may b l x c y _ d B w h1 (by cases hsm with | mk _ _ _ q1 _ _ => omega) hM
end Go.Proofs.YtjmfnafbjfceoaaDoor
