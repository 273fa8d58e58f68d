/- Texts laid into one: Pr. -/
import Derived.Test.YtenepkgjdoddgaaGreatDoorAg
/- policy's laws: Parse, where nothing gives up. -/
namespace Go.Proofs.YtenepkgjdoddgaaGreatDoor
open Go.RowKit Go.Shelf

theorem flat_at {α : Type} (f : α → List Value) (n : Nat) : ∀ (l : List α) (_ : ∀ c ∈ l, (f c).length = n) (k : Nat) (c : α) (j : Nat) (v : Value), l[k]? = some c → (f c)[j]? = some v → (l.flatMap f)[k * n + j]? = some v
  | [], _, _, _, _, _, h, _ => by simp at h
  | a :: l, hl, 0, c, j, v, h, hv => by
    simp only [List.getElem?_cons_zero, Option.some.injEq] at h
    subst h
    rw [List.flatMap_cons, Nat.zero_mul, Nat.zero_add, List.getElem?_append_left (List.getElem?_eq_some_iff.1 hv).1]
    exact hv
  | a :: l, hl, k + 1, c, j, v, h, hv => by
    simp only [List.getElem?_cons_succ] at h
    have ha := hl a (by simp)
    rw [List.flatMap_cons, List.getElem?_append_right (by rw [ha, Nat.succ_mul]; omega), ha, show (k + 1) * n + j - n = k * n + j by rw [Nat.succ_mul]; omega]
    exact flat_at f n l (fun c hc => hl c (by simp [hc])) k c j v h hv
theorem OwC.cla {X : World} {base : Nat} {v : Value} {l : List (List Nat × Nat)} (h : OwC X base v l) : ClA X v l := by
  refine ⟨h.2, ?_⟩
  rcases h.1.2 with ⟨rfl, hn⟩ | ⟨g, cap, cur, rfl, hb, hg, hnc, hcm, hcs, htk⟩
  · exact ⟨none, 0, by rw [hn], by rw [hn]; decide, fun hne => (hne (List.length_eq_zero_iff.1 hn)).elim⟩
  · refine ⟨_, cap, rfl, by unfold maxLen at hcm; omega, fun _ => ⟨g, 0, rfl, (Array.getElem?_eq_some_iff.1 hg).1, fun k c hc j u hu => ?_⟩⟩
    have hk := (List.getElem?_eq_some_iff.1 hc).1
    have hj := (List.getElem?_eq_some_iff.1 hu).1
    rw [clC_len (h.2 c (List.mem_of_getElem? hc)).1] at hj
    have h2 := flat_at (fun c => (clC c).toList) 21 l (fun c hc => clC_len (h.2 c hc).1) k c j u hc hu
    rw [← htk, List.getElem?_take_of_lt (by omega)] at h2
    rw [Nat.zero_add, cell_of_row X g (k * 21 + j) _ _ _ hg, ← Array.getElem?_toList]
    exact h2
theorem OwR.rla {X : World} {base : Nat} {v : Value} {l : List (List Nat × Nat × Nat)} (h : OwR X base v l) : RlA X v l := by
  refine ⟨h.2, ?_⟩
  rcases h.1.2 with ⟨rfl, hn⟩ | ⟨g, cap, cur, rfl, hb, hg, hnc, hcm, hcs, htk⟩
  · exact ⟨none, 0, by rw [hn], by rw [hn]; decide, fun hne => (hne (List.length_eq_zero_iff.1 hn)).elim⟩
  · refine ⟨_, cap, rfl, by unfold maxLen at hcm; omega, fun _ => ⟨g, 0, rfl, (Array.getElem?_eq_some_iff.1 hg).1, fun k c hc j u hu => ?_⟩⟩
    have hk := (List.getElem?_eq_some_iff.1 hc).1
    have hj := (List.getElem?_eq_some_iff.1 hu).1
    rw [rlC_len (h.2 c (List.mem_of_getElem? hc)).1] at hj
    have h2 := flat_at (fun c => (rlC c).toList) 22 l (fun c hc => rlC_len (h.2 c hc).1) k c j u hc hu
    rw [← htk, List.getElem?_take_of_lt (by omega)] at h2
    rw [Nat.zero_add, cell_of_row X g (k * 22 + j) _ _ _ hg, ← Array.getElem?_toList]
    exact h2
set_option maxRecDepth 100000 in
set_option maxHeartbeats 4000000 in
theorem pparse_ok (s : ByteArray) (st : St) (w : World) (hs : s.size ≤ 65536) (hd : st.df < 18446744073709551616) (hchk : chk st.df st.ls st.rs = 0)
    (hread : ∀ X, Below w.heap.size w X → Calls Tryz.prog 57 #[.string s] X fun e w' => ∃ vc vr, e = .returned (.tuple #[.agg #[.int .u64 (st.df : Nat), vc, vr], .int .i64 0]) ∧ OwC w' X.heap.size vc st.ls ∧ OwR w' X.heap.size vr st.rs ∧ Below X.heap.size X w') :
    Calls Tryz.prog 22 #[.string s] w fun e w' => ∃ vc vr, e = .returned (.tuple #[.agg #[.int .u64 (st.df : Nat), vc, vr], .int .i64 0]) ∧ ClA w' vc st.ls ∧ RlA w' vr st.rs ∧ Below w.heap.size w w' := by
  have hsI : ¬ (65536 : Int) < (s.size : Nat) := by omega
  have HR := Lib.hid hread
  have HK := Lib.hid (And.intro hd hchk)
  clear hread hs hd hchk
  go_enter Tryz.func22, Tryz.ntmps22
  go_wp2_with fail
  have hal := balloc (Below.refl w.heap.size w) (.cells #[.int .u64 0, .slice none 0 0, .slice none 0 0] 27)
  have kP := Blk.new w 27 #[.int .u64 0, .slice none 0 0, .slice none 0 0]
  obtain ⟨X0, hX0⟩ : ∃ X0, w.alloc (.cells #[.int .u64 0, .slice none 0 0, .slice none 0 0] 27) = X0 := ⟨_, rfl⟩
  rw [hX0] at hal kP ⊢
  clear hX0
  refine (HR.out X0 hal).mono ?_
  rintro e X1 ⟨vc, vr, rfl, hC, hRr, h1⟩
  have kP1 := kP.keep h1
  have hW1 := hal.trans (h1.mono hal.size)
  have hcl := hC.cla
  have hrl := hRr.rla
  obtain ⟨xc, nc, cc, rfl⟩ : ∃ x n c, vc = .slice x n c := by
    obtain ⟨_, x, c, e, _⟩ := hcl
    exact ⟨_, _, _, e⟩
  obtain ⟨xr, nr, cr, rfl⟩ : ∃ x n c, vr = .slice x n c := by
    obtain ⟨_, x, c, e, _⟩ := hrl
    exact ⟨_, _, _, e⟩
  have hal2 := balloc (Below.refl X1.heap.size X1) (.cells #[.int .u64 (st.df : Nat), .slice xc nc cc, .slice xr nr cr] 27)
  have HC := Lib.hid (check_any st.df (.slice xc nc cc) (.slice xr nr cr) st.ls st.rs (X1.alloc (.cells #[.int .u64 (st.df : Nat), .slice xc nc cc, .slice xr nr cr] 27)) HK.out.1 (hcl.new hal2) (hrl.new hal2))
  rw [HK.out.2] at HC
  have kP2 := kP1.keep hal2
  have kQ2 := Blk.new X1 27 #[.int .u64 (st.df : Nat), .slice xc nc cc, .slice xr nr cr]
  have hls := kP1.lt
  have HH := Lib.hid (show _ ∧ _ ∧ _ ∧ _ ∧ _ ∧ _ from ⟨hC, hRr, kP2, kQ2, hW1, hal2⟩)
  have hX0s : w.heap.size < X0.heap.size := kP.lt
  clear hal kP hC hRr h1 kP1 hW1 hcl hrl hal2 kP2 kQ2
  rename_i K hK
  refine hK _ _ ?_
  clear hK K
  go_wp2_with (first | (go_at_call 14; refine (HC.out).mono ?_; rintro e X3 ⟨rfl, h3⟩; have kP3 := HH.out.2.2.1.keep h3; have kQ3 := HH.out.2.2.2.1.keep h3; have q0 : X3.cell? ⟨X1.heap.size, 0, none⟩ = some (.int .u64 (st.df : Nat)) := cell_of_row _ _ 0 _ _ _ kQ3; have q1 : X3.cell? ⟨X1.heap.size, 1, none⟩ = some (.slice xc nc cc) := cell_of_row _ _ 1 _ _ _ kQ3; have q2 : X3.cell? ⟨X1.heap.size, 2, none⟩ = some (.slice xr nr cr) := cell_of_row _ _ 2 _ _ _ kQ3; have p0 : X3.cell? ⟨w.heap.size, 0, none⟩ = some (.int .u64 0) := cell_of_row _ _ 0 _ _ _ kP3; have p1 : X3.cell? ⟨w.heap.size, 1, none⟩ = some (.slice none 0 0) := cell_of_row _ _ 1 _ _ _ kP3; have p2 : X3.cell? ⟨w.heap.size, 2, none⟩ = some (.slice none 0 0) := cell_of_row _ _ 2 _ _ _ kP3; have f0 := frozen_of_row _ _ 0 _ _ kP3; have f1 := frozen_of_row _ _ 1 _ _ kP3; have f2 := frozen_of_row _ _ 2 _ _ kP3; have H3 := Lib.hid (And.intro h3 kP3); clear h3 kP3 kQ3) | fail)
  clear q0 q1 q2 p0 p1 p2 f0 f1 f2
  obtain ⟨hC, hRr, kP2, kQ2, hW1, hal2⟩ := HH.out
  obtain ⟨h3, kP3⟩ := H3.out
  have h13 : Below X1.heap.size X1 X3 := hal2.trans (h3.mono hal2.size)
  have g1 := grown_set' (grown_refl X3 w.heap.size) 0 (.int .u64 (st.df : Nat))
  have b1 := heap_setCell_same X3 w.heap.size 0 _ _ (.int .u64 (st.df : Nat)) kP3
  have g2 := grown_set' g1 1 (.slice xc nc cc)
  have b2 := heap_setCell_same _ w.heap.size 1 _ _ (.slice xc nc cc) b1
  have g3 := grown_set' g2 2 (.slice xr nr cr)
  have b3 := heap_setCell_same _ w.heap.size 2 _ _ (.slice xr nr cr) b2
  obtain ⟨X4, hX4⟩ : ∃ X4, ((X3.setCell ⟨w.heap.size, 0, none⟩ (.int .u64 (st.df : Nat))).setCell ⟨w.heap.size, 1, none⟩ (.slice xc nc cc)).setCell ⟨w.heap.size, 2, none⟩ (.slice xr nr cr) = X4 := ⟨_, rfl⟩
  rw [hX4] at g3 b3 ⊢
  have m0 : X4.cell? ⟨w.heap.size, 0, none⟩ = some (.int .u64 (st.df : Nat)) := cell_of_row _ _ 0 _ _ _ b3
  have m1 : X4.cell? ⟨w.heap.size, 1, none⟩ = some (.slice xc nc cc) := cell_of_row _ _ 1 _ _ _ b3
  have m2 : X4.cell? ⟨w.heap.size, 2, none⟩ = some (.slice xr nr cr) := cell_of_row _ _ 2 _ _ _ b3
  refine bodyPost_ret (R := fun e w' => ∃ vc vr, e = .returned (.tuple #[.agg #[.int .u64 (st.df : Nat), vc, vr], .int .i64 0]) ∧ ClA w' vc st.ls ∧ RlA w' vr st.rs ∧ Below w.heap.size w w') (v := .tuple #[.agg #[.int .u64 (st.df : Nat), .slice xc nc cc, .slice xr nr cr], .int .i64 0]) (by simp [results, Tryz.results22, go_sem, m0, m1, m2]) rfl ?_
  have hC4 : OwC X4 X0.heap.size (.slice xc nc cc) st.ls := ⟨(hC.1.kept (grown_new h13) (by cases (Value.slice xc nc cc).ownBlock <;> simp)).kept g3 (.inr (fun e => by have := (hC.1.lt _ e).1; omega)), hC.2⟩
  have hR4 : OwR X4 X0.heap.size (.slice xr nr cr) st.rs := ⟨(hRr.1.kept (grown_new h13) (by cases (Value.slice xr nr cr).ownBlock <;> simp)).kept g3 (.inr (fun e => by have := (hRr.1.lt _ e).1; omega)), hRr.2⟩
  exact ⟨_, _, rfl, hC4.cla, hR4.rla, (hW1.trans (h13.mono hW1.size)).grown g3 (hW1.trans (h13.mono hW1.size)).size (fun k e => by cases e; exact Nat.le_refl _)⟩
end Go.Proofs.YtenepkgjdoddgaaGreatDoor

/- policy's laws: the text of works. -/
namespace Go.Proofs.YtenepkgjdoddgaaGreatDoor
open Go.RowKit Go.Shelf

theorem pcs_of {c : UInt8} {s : ByteArray} {L : List (List UInt8)} (h : Lib.split s.data.toList [c] = L) : pcs c s = L.map fun l => ⟨l.toArray⟩ := by
  have h1 := pcs_data c s
  rw [h] at h1
  subst h1
  rw [List.map_map]
  exact (List.map_id _).symm.trans (List.map_congr_left fun x _ => rfl)
set_option maxRecDepth 100000 in
set_option maxHeartbeats 1000000 in
theorem number_small (k : Nat) (hk : k < 64) (w : World) :
    Calls Tryz.prog 51 #[.int .u32 (k : Nat)] w fun e w' => e = .returned (.string ⟨(dec k).toArray⟩) ∧ Below w.heap.size w w' := by
  have h2 : (k : Int) < 100 := by omega
  have g1 : IntKind.u64.wrap (k : Int) = (k : Int) := IntWalk.u64_in _ (by omega)
  have g2 : wrap64 (k : Int) = (k : Int) := IntWalk.wrap64_in _ (by omega)
  have hI : ∀ w, Calls Tryz.prog 117 #[.int .u64 k, .int .i64 10] w fun e w' => e = .returned (.string ⟨(dec k).toArray⟩) ∧ w = w' := fun w => by
    go_enter Tryz.func117, Tryz.ntmps117
    go_wp2_with (first | (go_at_call 135; refine (small_any k hk _).mono ?_; rintro e w' ⟨rfl, rfl⟩) | fail)
    go_ret
    exact ⟨rfl, rfl⟩
  have hF : ∀ w, Calls Tryz.prog 85 #[.int .u64 k, .int .i64 10] w fun e w' => e = .returned (.string ⟨(dec k).toArray⟩) ∧ w = w' := fun w => by
    go_enter Tryz.func85, Tryz.ntmps85
    go_wp2_with (first | (go_at_call 117; refine (hI _).mono ?_; rintro e w' ⟨rfl, rfl⟩) | fail)
    go_ret
    exact ⟨rfl, rfl⟩
  go_enter Tryz.func51, Tryz.ntmps51
  go_wp2_with (first | (go_at_call 85; refine (hF _).mono ?_; rintro e w' ⟨rfl, rfl⟩) | fail)
  go_ret
  exact ⟨rfl, Below.refl _ _⟩
/-- The text of works, with its lines. -/
def wT : List UInt8 := [48, 48, 48, 48, 48, 48, 48, 48, 48, 48, 48, 48, 48, 48, 48, 48, 48, 48, 48, 48, 48, 48, 48, 48, 48, 48, 48, 48, 48, 48, 48, 48, 48, 48, 48, 48, 48, 48, 48, 49]
def wL0 : List UInt8 := [100, 101, 102, 97, 117, 108, 116, 32, 45]
def wL1 : List UInt8 := [99, 108, 101, 97, 114, 32] ++ (48 :: 120 :: wT) ++ [32, 48, 44, 49]
def wL2 : List UInt8 := [114, 101, 108, 101, 97, 115, 101, 32] ++ (48 :: 120 :: wT) ++ [32, 55, 32, 49]
def wLs : List UInt8 := wL0 ++ [10] ++ wL1 ++ [10] ++ wL2
def wS : List UInt8 := wLs ++ [10]
theorem nm_one : nmL (ofL 1) = 48 :: 120 :: wT := by unfold nmL hdg; decide +kernel
theorem low_one : lowA (valL wT) = ofL 1 := by decide +kernel
theorem split_w : Lib.split wLs [10] = [wL0, wL1, wL2] := by decide +kernel
theorem split_0 : Lib.split wL0 [32] = [[100, 101, 102, 97, 117, 108, 116], [45]] := by decide +kernel
theorem split_1 : Lib.split wL1 [32] = [[99, 108, 101, 97, 114], 48 :: 120 :: wT, [48, 44, 49]] := by decide +kernel
theorem split_2 : Lib.split wL2 [32] = [[114, 101, 108, 101, 97, 115, 101], 48 :: 120 :: wT, [55], [49]] := by decide +kernel
theorem trim_w : Lib.trimSuffix wS [10] = wLs ∧ Lib.hasSuffix wS [10] = true := by decide +kernel
theorem tx_3 : txL 3 = [48, 44, 49] := by decide +kernel
theorem tx_2 : txL 2 = [49] := by decide +kernel
theorem dec_7 : dec 7 = [55] := by decide +kernel
theorem pu_7 : Lib.parseUintB 32 [55] = .ok 7 := by rfl
theorem dv_wT : ∀ y ∈ wT, dv y < 16 := by decide +kernel
end Go.Proofs.YtenepkgjdoddgaaGreatDoor

/- policy's laws: the text of works is read. -/
namespace Go.Proofs.YtenepkgjdoddgaaGreatDoor
open Go.RowKit Go.Shelf

def wSt (i : Nat) : St := if i < 2 then ⟨0, [], []⟩ else if i = 2 then ⟨0, [(ofL 1, 3)], []⟩ else ⟨0, [(ofL 1, 3)], [(ofL 1, 7, 2)]⟩
theorem chk_w : chk 0 [(ofL 1, 3)] [(ofL 1, 7, 2)] = 0 := by decide +kernel
theorem ba_data (l : List UInt8) : (ByteArray.mk l.toArray).data.toList = l := rfl
theorem lab_0 : labV [45] = 0 ∧ labE [45] = 0 := lab_of (a := 0) (by decide) txL_zero
theorem lab_3 : labV [48, 44, 49] = 3 ∧ labE [48, 44, 49] = 0 := lab_of (a := 3) (by decide) tx_3
theorem lab_2 : labV [49] = 2 ∧ labE [49] = 0 := lab_of (a := 2) (by decide) tx_2
theorem pcs_w : pcs 10 ⟨wLs.toArray⟩ = [⟨wL0.toArray⟩, ⟨wL1.toArray⟩, ⟨wL2.toArray⟩] := pcs_of (s := ⟨wLs.toArray⟩) split_w
theorem step_w : ∀ i x, (pcs 10 ⟨wLs.toArray⟩)[i]? = some x → x.size ≤ 100000 ∧ StepOk i x (wSt i) (wSt (i + 1)) ∧ (wSt i).ls.length ≤ 100000 ∧ (wSt i).rs.length ≤ 100000 := by
  intro i x h
  rw [pcs_w] at h
  match i, h with
  | 0, h =>
    simp only [List.getElem?_cons_zero, Option.some.injEq] at h
    subst h
    refine ⟨by decide, ?_, by decide, by decide⟩
    have h1 := StepOk.dflt ⟨wL0.toArray⟩ ⟨[45].toArray⟩ 0 [] [] (pcs_of (s := ⟨wL0.toArray⟩) split_0) (by decide) lab_0.2
    rw [ba_data, lab_0.1] at h1
    exact h1
  | 1, h =>
    simp only [List.getElem?_cons_succ, List.getElem?_cons_zero, Option.some.injEq] at h
    subst h
    refine ⟨by decide, ?_, by decide, by decide⟩
    have h1 := StepOk.clear 1 ⟨wL1.toArray⟩ wT ⟨[48, 44, 49].toArray⟩ 0 [] (by decide) (pcs_of (s := ⟨wL1.toArray⟩) split_1) (by decide) dv_wT (by decide) lab_3.2
    rw [ba_data, lab_3.1, low_one] at h1
    exact h1
  | 2, h =>
    simp only [List.getElem?_cons_succ, List.getElem?_cons_zero, Option.some.injEq] at h
    subst h
    refine ⟨by decide, ?_, by decide, by decide⟩
    have h1 := StepOk.release 2 ⟨wL2.toArray⟩ wT ⟨[55].toArray⟩ ⟨[49].toArray⟩ 7 0 [(ofL 1, 3)] [] (by decide) (pcs_of (s := ⟨wL2.toArray⟩) split_2) (by decide) dv_wT (by decide) (by decide) pu_7 (fun X => by have := number_small 7 (by decide) X; rwa [dec_7] at this) (by decide) lab_2.2
    rw [ba_data, lab_2.1, low_one] at h1
    exact h1
  | i + 3, h => simp at h
theorem wparse_any (w : World) (hT : TZ w) :
    Calls Tryz.prog 22 #[.string ⟨wS.toArray⟩] w fun e w' => ∃ vc vr, e = .returned (.tuple #[.agg #[.int .u64 0, vc, vr], .int .i64 0]) ∧ ClA w' vc [(ofL 1, 3)] ∧ RlA w' vr [(ofL 1, 7, 2)] ∧ Below w.heap.size w w' := by
  refine pparse_ok ⟨wS.toArray⟩ ⟨0, [(ofL 1, 3)], [(ofL 1, 7, 2)]⟩ w (by decide) (by decide) chk_w (fun X hX => ?_)
  have hTX : TZ X := hT.keep hX
  have hc : ∀ Y, Calls Tryz.prog 91 #[.string ⟨wS.toArray⟩, .string ⟨#[10]⟩] Y fun e w' => e = .returned (.tuple #[.string ⟨wLs.toArray⟩, .bool true]) ∧ w' = Y := fun Y => by
    have h := cutSuffix_any ⟨wS.toArray⟩ ⟨#[10]⟩ (by decide) Y
    rw [ba_data, show (ByteArray.mk #[10]).data.toList = [10] from rfl, trim_w.1, trim_w.2] at h
    exact h
  have h := read_ok ⟨wS.toArray⟩ ⟨wLs.toArray⟩ wSt X (by decide) hc rfl step_w hTX (fun w' h => hTX.keep h)
  rw [pcs_w] at h
  exact h
end Go.Proofs.YtenepkgjdoddgaaGreatDoor

