/- item: bytes of arguments as a string, their heads; Word of an item that an argument lays. -/
import Derived.Test.YtjmfnafbjfceoaaDoorJr
namespace Go.Proofs.YtjmfnafbjfceoaaDoor
open Go.RowKit Go.Shelf
attribute [local irreducible] lb wdG byA byC heL
theorem Bto.take {B : Nat} {X : World} {l : List Nat} {x : Option Addr} {c : Nat} (h : Bto B X (.slice x l.length c) l) (n : Nat) (hn : n ≤ l.length) : Bto B X (.slice x n c) (l.take n) := by
  obtain ⟨h1, y, cap, h2, h3, h4, h5⟩ := h
  cases h2
  have hln : (l.take n).length = n := by rw [List.length_take]; omega
  refine ⟨fun z hz => h1 z (List.mem_of_mem_take hz), x, c, by rw [hln], by omega, by omega, fun hl => ?_⟩
  obtain ⟨b, o, e, hb, hbx, hc⟩ := h5 (fun e => hl (by rw [e]; simp))
  refine ⟨b, o, e, hb, hbx, fun k u hu => hc k u ?_⟩
  rw [List.getElem?_take] at hu
  split at hu
  · exact hu
  · cases hu
theorem conv_byteso (B : Nat) (v : Value) (l : List Nat) (w : World) (h : Bto B w v l) (hl : l.length ≤ 100000) : (convert 22 9 v).run Tryd.prog w = .ok (.string (toS l)) w := by
  obtain ⟨h1, x, cap, rfl, h3, h4, h5⟩ := h
  rw [run_convert_bytes_string w _ _ 5 x _ _ (by kernel_rfl) (by kernel_rfl) (by kernel_rfl)]
  by_cases h0 : l = []
  · subst h0
    cases x with
    | none => rfl
    | some a =>
      exact run_bytesToString (P := Tryd.prog) w a 0 cap [] (run_loadCells_list (P := Tryd.prog) w a [] (fun j u hj => by simp at hj))
  · obtain ⟨b, o, rfl, _, _, hc⟩ := h5 h0
    have hload : (loadCells ⟨b, o, none⟩ l.length).run Tryd.prog w = .ok ((l.map fun n : Nat => (n : Int)).map (Value.int .u8)).toArray w := by
      have h := run_loadCells_list (P := Tryd.prog) w ⟨b, o, none⟩ (bvs l) (fun j u hj => by
        rw [bvs_get] at hj
        cases hmj : l[j]? with
        | none => rw [hmj] at hj; cases hj
        | some z =>
          rw [hmj] at hj
          cases hj
          rw [Go.WideShapes.add_plain]
          exact hc j z hmj)
      rw [bvs_len] at h
      rw [h, List.map_map]
      rfl
    rw [run_bytesToString w _ _ _ (l.map fun n : Nat => (n : Int)) hload, fold_toS]
    simp [toS]
set_option maxRecDepth 100000 in
set_option maxHeartbeats 2000000 in
theorem equal_o (B C : Nat) (v u : Value) (l m : List Nat) (w : World) (hv : Bto B w v l) (hu : Bto C w u m) (hl : l.length ≤ 100000) (hm : m.length ≤ 100000) :
    Calls Tryd.prog 31 #[v, u] w fun e w' => e = .returned (.bool (decide (l = m))) ∧ w = w' := by
  have h1 := conv_byteso B v l w hv hl
  have h2 := conv_byteso C u m w hu hm
  have he : ((toS l).toList == (toS m).toList) = decide (l = m) := by
    rw [Bool.eq_iff_iff, beq_iff_eq, decide_eq_true_iff, toS_list, toS_list]
    exact ⟨fun h => toS_inj hv.1 hu.1 (by unfold toS; rw [h]), fun h => by rw [h]⟩
  obtain ⟨q, hq⟩ : ∃ q, decide (l = m) = q := ⟨_, rfl⟩
  rw [hq] at he ⊢
  obtain ⟨_, x, c, rfl, _⟩ := hv
  obtain ⟨_, y, d, rfl, _⟩ := hu
  generalize toS l = s1 at h1 he
  generalize toS m = s2 at h2 he
  clear hq
  go_enter Tryd.func31, Tryd.ntmps31
  go_wp2_with fail
  go_ret
  exact ⟨by rw [← he]; rfl, rfl⟩

set_option maxRecDepth 100000 in
set_option maxHeartbeats 2000000 in
/-- Whether bytes begin with a nought. -/
theorem prefix0_o (B C : Nat) (v : Value) (l : List Nat) (y : Option Addr) (d : Nat) (w : World) (hv : Bto B w v l) (hu : Bto C w (.slice y 1 d) [0]) (hl : l.length ≤ 100000) :
    Calls Tryd.prog 41 #[v, .slice y 1 d] w fun e w' => e = .returned (.bool (decide (l.head? = some 0))) ∧ w = w' := by
  obtain ⟨_, x, c, rfl, hc, _⟩ := id hv
  by_cases h0 : l = []
  · subst h0
    go_enter Tryd.func41, Tryd.ntmps41
    go_wp2_with fail
    go_ret
    exact ⟨rfl, rfl⟩
  · have hpos : 0 < l.length := List.length_pos_iff.2 h0
    have ht := hv.take 1 (by omega)
    have hE := equal_o B C _ _ _ _ w ht hu (by simp; omega) (by simp)
    have hd : decide (l.take 1 = [0]) = decide (l.head? = some 0) := by
      cases l with
      | nil => exact (h0 rfl).elim
      | cons a l => simp
    rw [hd] at hE
    have HE := Lib.hid hE
    have gc : (1 : Int) ≤ (c : Int) := by omega
    have g : (1 : Int) ≤ (l.length : Int) := by omega
    have g' : 1 ≤ l.length := by omega
    obtain ⟨q, hq⟩ : ∃ q, decide (l.head? = some 0) = q := ⟨_, rfl⟩
    rw [hq] at HE ⊢
    obtain ⟨n, hn⟩ : ∃ n, l.length = n := ⟨_, rfl⟩
    rw [hn] at g g' ⊢
    clear hE hd ht hv hu hq hn h0 hpos hl hc
    go_enter Tryd.func41, Tryd.ntmps41
    go_wp2_with fail
    refine HE.out.mono ?_
    rintro e w2 ⟨rfl, rfl⟩
    go_wp2_with fail
    go_ret
    exact ⟨rfl, rfl⟩

theorem read_fitso (B : Nat) (v : Value) (l : List Nat) (w : World) (hv : Bto B w v l) (hl : l.length ≤ 32) :
    Calls Tryd.prog 42 #[v] w fun e w' => e = .returned (.tuple #[W (nuL l), .int .i64 0]) ∧ Below w.heap.size w w' := by
  obtain ⟨h1, x, c, rfl, _, h3, h5⟩ := hv
  by_cases h0 : l = []
  · subst h0
    exact read_empty x c w
  · obtain ⟨b, o, rfl, _, hb, hc⟩ := h5 h0
    · refine read_any b o l.length c (fun k => l.getD k 0) w hl hb (fun k hk => ?_)
      have hk2 : l[k]? = some (l.getD k 0) := by rw [List.getD_eq_getElem?_getD]; simp [hk]
      exact ⟨h1 _ (List.mem_of_getElem? hk2), hc k _ hk2⟩
theorem read_overo (B : Nat) (v : Value) (l : List Nat) (w : World) (hv : Bto B w v l) (hl : 32 < l.length) :
    Calls Tryd.prog 42 #[v] w fun e w' => e = .returned (.tuple #[W 0, .int .i64 3]) ∧ Below w.heap.size w w' := by
  obtain ⟨h1, x, c, rfl, _, h3, h5⟩ := hv
  obtain ⟨b, o, rfl, _, hb, hc⟩ := h5 (fun h => by rw [h] at hl; simp at hl)
  · exact read_long b o l.length c w hl (by omega)

set_option maxRecDepth 100000 in
set_option maxHeartbeats 4000000 in
/-- Word of an item that may be. -/
theorem word_mayo (b : Bool) (l : List Nat) (x : Option Addr) (c : Nat) (y : Option Addr) (n d : Nat) (B : Nat) (w : World) (hv : Bto B w (.slice x l.length c) l) (hl : l.length ≤ 100000)
    (hM : ∀ X, Below w.heap.size w X → Calls Tryd.prog 25 #[itW b x l.length c y n d, .int .i64 1] X fun e w' => e = .returned (.bool true) ∧ Below X.heap.size X w') :
    Calls Tryd.prog 20 #[itW b x l.length c y n d] w fun e w' => e = .returned (.tuple #[W (woS b l).1, .int .i64 ((woS b l).2 : Nat)]) ∧ Below w.heap.size w w' := by
  have hI := (Blk.new w 25 #[.bool b, .slice x l.length c, .slice y n d]).alloc (.cells #[.int .u64 0, .int .u64 0, .int .u64 0, .int .u64 0] 47)
  have hR := Blk.newS w (.cells #[.bool b, .slice x l.length c, .slice y n d] 25) 47 #[.int .u64 0, .int .u64 0, .int .u64 0, .int .u64 0]
  have hW := balloc (balloc (Below.refl w.heap.size w) (.cells #[.bool b, .slice x l.length c, .slice y n d] 25)) (.cells #[.int .u64 0, .int .u64 0, .int .u64 0, .int .u64 0] 47)
  have hM1 := Lib.hid (hM _ hW)
  have HB := Lib.hid hv
  obtain ⟨wv, hwv⟩ : ∃ wv, woS b l = wv := ⟨_, rfl⟩
  have HWV := Lib.hid hwv
  rw [hwv]
  have HX := Lib.hid (And.intro hI (And.intro hR hW))
  clear hM hI hR hW hv hwv
  obtain ⟨m, hm⟩ : ∃ m, l.length = m := ⟨_, rfl⟩
  have HM := Lib.hid hm
  rw [hm] at hM1 HX HB hl ⊢
  clear hm
  go_enter Tryd.func20, Tryd.ntmps20
  go_wp2_with fail
  refine hM1.out.mono ?_
  rintro e w1 ⟨rfl, h1⟩
  obtain ⟨hI, hR, hW⟩ := HX.out
  have hI1 := hI.keep h1
  have hR1 := hR.keep h1
  have hW1 := bstep hW h1
  have k0 : w1.cell? ⟨w.heap.size, 0, none⟩ = some (.bool b) := cell_of_row w1 _ 0 _ _ _ hI1
  have k1 : w1.cell? ⟨w.heap.size, 1, none⟩ = some (.slice x m c) := cell_of_row w1 _ 1 _ _ _ hI1
  have H1 := Lib.hid (And.intro hI1 (And.intro hR1 hW1))
  clear hI hR hW hI1 hR1 hW1 h1 hM1 HX
  have hzero : wv = (0, 160) → Ending.returned (.tuple #[.agg #[.int .u64 0, .int .u64 0, .int .u64 0, .int .u64 0], .int .i64 160]) = Ending.returned (.tuple #[W wv.1, .int .i64 (wv.2 : Nat)]) := fun h => by rw [h, show W ((0, 160) : Nat × Nat).1 = _ from W_zero]; rfl
  have HZ := Lib.hid hzero
  clear hzero
  cases b with
  | true =>
    have hr := H1.out.2.1
    have f0 := frozen_of_row w1 _ 0 _ _ hr
    have f1 := frozen_of_row w1 _ 1 _ _ hr
    have f2 := frozen_of_row w1 _ 2 _ _ hr
    have f3 := frozen_of_row w1 _ 3 _ _ hr
    have r0 := cell_of_row w1 _ 0 _ _ _ hr
    have r1 := cell_of_row w1 _ 1 _ _ _ hr
    have r2 := cell_of_row w1 _ 2 _ _ _ hr
    have r3 := cell_of_row w1 _ 3 _ _ _ hr
    have hwv : wv = (0, 160) := by rw [← HWV.out]; rfl
    have HV := Lib.hid (HZ.out hwv)
    clear hr hwv
    go_wp2_with fail
    exact bodyPost_ret (v := .tuple #[.agg #[.int .u64 0, .int .u64 0, .int .u64 0, .int .u64 0], .int .i64 160]) (by simp [results, Tryd.results20, go_sem, r0, r1, r2, r3]) rfl ⟨HV.out, step_world H1.out.2.2 (gset4 w1 (w.heap.size + 1) _ _ _ _) (Nat.le_refl _) (by omega)⟩
  | false =>
    have hz := Blk.new w1 5 #[.int .u8 0]
    have hzb : Bt (w1.heap.size + 1) (w1.alloc (.cells #[.int .u8 0] 5)) (.slice (some ⟨w1.heap.size, 0, none⟩) 1 1) [0] :=
      (Ow.one (base := 0) (x := 0) (by omega) (Nat.zero_le _) hz).bt.mono (by simp)
    have hzW := balloc (Below.refl w1.heap.size w1) (.cells #[.int .u8 0] 5)
    have hB2 := (HB.out.new H1.out.2.2).new hzW
    have hP := prefix0_o B (w1.heap.size + 1) (.slice x m c) l (some ⟨w1.heap.size, 0, none⟩) 1 _ hB2 hzb.bto (by rw [HM.out]; exact hl)
    have hR2 := H1.out.2.1.keep hzW
    have hW2 := bstep H1.out.2.2 hzW
    have hI2 := H1.out.1.keep hzW
    have HP := Lib.hid hP
    have H2 := Lib.hid (And.intro hR2 (And.intro hW2 (And.intro hB2 hI2)))
    have k1 : (w1.alloc (.cells #[.int .u8 0] 5)).cell? ⟨w.heap.size, 1, none⟩ = some (.slice x m c) := cell_of_row _ _ 1 _ _ _ hI2
    clear hz hzb hzW hB2 hP hR2 hW2 H1 hI2
    obtain ⟨q, hq⟩ : ∃ q, decide (l.head? = some 0) = q := ⟨_, rfl⟩
    rw [hq] at HP
    have HQ := Lib.hid hq
    clear hq
    go_wp2_with fail
    refine HP.out.mono ?_
    rintro e w2 ⟨rfl, rfl⟩
    clear HP k0 k1
    have hr := H2.out.1
    have f0 := frozen_of_row _ _ 0 _ _ hr
    have f1 := frozen_of_row _ _ 1 _ _ hr
    have f2 := frozen_of_row _ _ 2 _ _ hr
    have f3 := frozen_of_row _ _ 3 _ _ hr
    have r0 := cell_of_row _ _ 0 _ _ _ hr
    have r1 := cell_of_row _ _ 1 _ _ _ hr
    have r2 := cell_of_row _ _ 2 _ _ _ hr
    have r3 := cell_of_row _ _ 3 _ _ _ hr
    have hI := H2.out.2.2.2
    have i1 := cell_of_row _ _ 1 _ _ _ hI
    obtain ⟨w2, hw2⟩ : ∃ w2, w1.alloc (.cells #[.int .u8 0] 5) = w2 := ⟨_, rfl⟩
    rw [hw2] at f0 f1 f2 f3 r0 r1 r2 r3 i1 H2 ⊢
    clear hw2 hr hI
    cases q with
    | true =>
      have hwv : wv = (0, 160) := by rw [← HWV.out]; unfold woS; rw [HQ.out]; rfl
      have HV := Lib.hid (HZ.out hwv)
      clear hwv i1
      go_wp2_with fail
      exact bodyPost_ret (v := .tuple #[.agg #[.int .u64 0, .int .u64 0, .int .u64 0, .int .u64 0], .int .i64 160]) (by simp [results, Tryd.results20, go_sem, r0, r1, r2, r3]) rfl ⟨HV.out, step_world H2.out.2.1 (gset4 w2 (w.heap.size + 1) _ _ _ _) (Nat.le_refl _) (by omega)⟩
    | false =>
      obtain ⟨hR, hW, hB, hI⟩ := H2.out
      by_cases h32 : m ≤ 32
      · have hwv : wv = (nuL l, 0) := by rw [← HWV.out]; unfold woS; rw [HQ.out, HM.out, show decide (32 < m) = false from decide_eq_false (by omega)]; rfl
        have hC := Lib.hid (read_fitso B (.slice x m c) l w2 hB (by rw [HM.out]; exact h32))
        have HE := Lib.hid (And.intro hR hW)
        have HV := Lib.hid hwv
        clear hR hW hB hI hwv H2
        obtain ⟨a, ha⟩ : ∃ a, nuL l = a := ⟨_, rfl⟩
        rw [ha] at HV hC
        clear ha
        go_wp2_with fail
        refine hC.out.mono ?_
        clear r0 r1 r2 r3 f0 f1 f2 f3 i1 hC
        rintro e w3 ⟨rfl, h3⟩
        have hr := (HE.out.1.keep h3).alloc (.cells (Wc a) 47)
        have hW3 := balloc (bstep HE.out.2 h3) (.cells (Wc a) 47)
        have hA := Blk.new w3 47 (Wc a)
        have f0 := frozen_of_row _ _ 0 _ _ hr
        have f1 := frozen_of_row _ _ 1 _ _ hr
        have f2 := frozen_of_row _ _ 2 _ _ hr
        have f3 := frozen_of_row _ _ 3 _ _ hr
        have r0 := cell_of_row _ _ 0 _ _ _ hr
        have r1 := cell_of_row _ _ 1 _ _ _ hr
        have r2 := cell_of_row _ _ 2 _ _ _ hr
        have r3 := cell_of_row _ _ 3 _ _ _ hr
        have a0 := (cell_of_row _ _ 0 _ _ _ hA).trans (wc_get a 0 (by omega))
        have a1 := (cell_of_row _ _ 1 _ _ _ hA).trans (wc_get a 1 (by omega))
        have a2 := (cell_of_row _ _ 2 _ _ _ hA).trans (wc_get a 2 (by omega))
        have a3 := (cell_of_row _ _ 3 _ _ _ hA).trans (wc_get a 3 (by omega))
        have HW3 := Lib.hid hW3
        clear hr hA hW3 h3 HE
        go_wp2_with fail
        exact bodyPost_ret (v := .tuple #[W a, .int .i64 0]) (by simp [results, Tryd.results20, go_sem, r0, r1, r2, r3]) rfl ⟨by rw [HV.out]; rfl, step_world HW3.out (gset4 _ (w.heap.size + 1) _ _ _ _) (Nat.le_refl _) (by omega)⟩
      · have hwv : wv = (0, 160) := by rw [← HWV.out]; unfold woS; rw [HM.out, show decide (32 < m) = true from decide_eq_true (by omega)]; simp
        have hC := Lib.hid (read_overo B (.slice x m c) l w2 hB (by rw [HM.out]; omega))
        have HE := Lib.hid (And.intro hR hW)
        have HV := Lib.hid (HZ.out hwv)
        clear hR hW hB hI hwv H2
        go_wp2_with fail
        refine hC.out.mono ?_
        clear r0 r1 r2 r3 f0 f1 f2 f3 i1 hC
        rw [W_zero]
        rintro e w3 ⟨rfl, h3⟩
        have hr := (HE.out.1.keep h3).alloc (.cells #[.int .u64 0, .int .u64 0, .int .u64 0, .int .u64 0] 47)
        have hW3 := balloc (bstep HE.out.2 h3) (.cells #[.int .u64 0, .int .u64 0, .int .u64 0, .int .u64 0] 47)
        have f0 := frozen_of_row _ _ 0 _ _ hr
        have f1 := frozen_of_row _ _ 1 _ _ hr
        have f2 := frozen_of_row _ _ 2 _ _ hr
        have f3 := frozen_of_row _ _ 3 _ _ hr
        have r0 := cell_of_row _ _ 0 _ _ _ hr
        have r1 := cell_of_row _ _ 1 _ _ _ hr
        have r2 := cell_of_row _ _ 2 _ _ _ hr
        have r3 := cell_of_row _ _ 3 _ _ _ hr
        have HW3 := Lib.hid hW3
        clear hr hW3 h3 HE
        go_wp2_with fail
        exact bodyPost_ret (v := .tuple #[.agg #[.int .u64 0, .int .u64 0, .int .u64 0, .int .u64 0], .int .i64 160]) (by simp [results, Tryd.results20, go_sem, r0, r1, r2, r3]) rfl ⟨HV.out, step_world HW3.out (gset4 _ (w.heap.size + 1) _ _ _ _) (Nat.le_refl _) (by omega)⟩

theorem word_itemo (t : It) (v : Value) (B : Nat) (w : World) (hB : B ≤ w.heap.size) (hv : ItO B w t v) (hsm : smT t) :
    Calls Tryd.prog 20 #[v] w fun e w' => e = .returned (.tuple #[W (woT t).1, .int .i64 ((woT t).2 : Nat)]) ∧ Below w.heap.size w w' := by
  have hM : ∀ X, Below w.heap.size w X → Calls Tryd.prog 25 #[v, .int .i64 1] X fun e w' => e = .returned (.bool (rtB 8 t)) ∧ Below X.heap.size X w' := fun X hX =>
    mayBe_o 8 (Nat.le_refl _) t v B X (Nat.le_trans hB hX.size) (hv.new hX) hsm
  cases hr : rtB 8 t with
  | false =>
    rw [hr] at hM
    have e : woT t = (0, 2) := by
      cases t with
      | mk b l ts =>
        show (if rtB 8 (.mk b l ts) then woS b l else (0, 2)) = _
        rw [hr]; rfl
    rw [e]
    exact word_not v hv.is w hM
  | true =>
    rw [hr] at hM
    cases hv with
    | mk b l ts v1 iv vs h1 h2 hlv hs =>
      have e : woT (.mk b l ts) = woS b l := by
        show (if rtB 8 (.mk b l ts) then woS b l else (0, 2)) = _
        rw [hr]; rfl
      rw [e]
      obtain ⟨_, x, c, rfl, _⟩ := id h1
      obtain ⟨y, d, rfl, _⟩ := h2
      exact word_mayo b l x c y _ d B w h1 (by cases hsm with | mk _ _ _ q1 _ _ => omega) hM
end Go.Proofs.YtjmfnafbjfceoaaDoor
