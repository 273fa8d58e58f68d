/- policy's laws: PolicyHolds: the walk. -/
import Derived.Test.YtenepkgjdoddgaaGreatDoorNf
import Derived.Test.YtenepkgjdoddgaaGreatDoorPl
import Derived.Test.YtenepkgjdoddgaaGreatDoorRm
namespace Go.Proofs.YtenepkgjdoddgaaGreatDoor
open Go.RowKit Go.Shelf

/-- A policy's text, or none. -/
def txE (d : Nat) (cs : List (List Nat × Nat)) (rs : List (List Nat × Nat × Nat)) : List UInt8 := if chk d cs rs = 0 then txP d cs rs else []
theorem ptext_any (d : Nat) (cv rv : Value) (cs : List (List Nat × Nat)) (rs : List (List Nat × Nat × Nat)) (w : World) (hd : d < 18446744073709551616) (hcs : ClA w cv cs) (hrs : RlA w rv rs) (hT : TZ w) (h10 : T10 w) :
    Calls Tryz.prog 18 #[.agg #[.int .u64 d, cv, rv]] w fun e w' => e = .returned (.tuple #[.string ⟨(txE d cs rs).toArray⟩, .int .i64 (chk d cs rs : Nat)]) ∧ Below w.heap.size w w' := by
  unfold txE
  by_cases h : chk d cs rs = 0
  · rw [if_pos h, h]
    exact text_ok d cv rv cs rs w hd hcs hrs h hT h10
  · rw [if_neg h]
    exact text_bad d cv rv cs rs w hd hcs hrs h
set_option maxRecDepth 100000 in
set_option maxHeartbeats 4000000 in
theorem holds9_long (d e : Nat) (x1 x2 x3 x4 : Option Addr) (n1 c1 n2 c2 n3 c3 n4 c4 : Nat) (w : World) (h : ¬ ((n1 ≤ 20 ∧ n2 ≤ 20) ∧ n3 ≤ 20 ∧ n4 ≤ 20)) (hWk : ∀ Y, Below w.heap.size w Y → Calls Tryz.prog 10 #[] Y fun e w' => e = .returned (.bool true) ∧ Below Y.heap.size Y w') :
    Calls Tryz.prog 8 #[.agg #[.int .u64 d, .slice x1 n1 c1, .slice x2 n2 c2], .agg #[.int .u64 e, .slice x3 n3 c3, .slice x4 n4 c4]] w fun r w' => r = .returned (.bool true) ∧ Below w.heap.size w w' := by
  obtain ⟨X, hX⟩ : ∃ X, (w.alloc (.cells #[.int .u64 d, .slice x1 n1 c1, .slice x2 n2 c2] 27)).alloc (.cells #[.int .u64 e, .slice x3 n3 c3, .slice x4 n4 c4] 27) = X := ⟨_, rfl⟩
  have b1 : Blk X w.heap.size 27 #[.int .u64 d, .slice x1 n1 c1, .slice x2 n2 c2] := by rw [← hX]; exact (Blk.new w _ _).alloc _
  have b2 : Blk X (w.heap.size + 1) 27 #[.int .u64 e, .slice x3 n3 c3, .slice x4 n4 c4] := by rw [← hX]; exact Blk.newS w _ _ _
  have hW : Below w.heap.size w X := by rw [← hX]; exact balloc (balloc (Below.refl _ _) _) _
  have HX := Lib.hid hX
  have HP := Lib.hid (fun (Y : World) (hY : Below X.heap.size X Y) => (by
    have q := b1.keep hY
    have r := b2.keep hY
    exact ⟨cell_of_row _ _ 0 _ _ _ q, cell_of_row _ _ 1 _ _ _ q, cell_of_row _ _ 2 _ _ _ q, cell_of_row _ _ 0 _ _ _ r, cell_of_row _ _ 1 _ _ _ r, cell_of_row _ _ 2 _ _ _ r⟩ : Y.cell? ⟨w.heap.size, 0, none⟩ = some (.int .u64 d) ∧ Y.cell? ⟨w.heap.size, 1, none⟩ = some (.slice x1 n1 c1) ∧ Y.cell? ⟨w.heap.size, 2, none⟩ = some (.slice x2 n2 c2) ∧ Y.cell? ⟨w.heap.size + 1, 0, none⟩ = some (.int .u64 e) ∧ Y.cell? ⟨w.heap.size + 1, 1, none⟩ = some (.slice x3 n3 c3) ∧ Y.cell? ⟨w.heap.size + 1, 2, none⟩ = some (.slice x4 n4 c4)))
  have HWk := Lib.hid (fun (Y : World) (hY : Below X.heap.size X Y) => hWk Y (hW.trans (hY.mono hW.size)))
  have H0 := Lib.hid hW
  obtain ⟨k0, k1, k2, k3, k4, k5⟩ := HP.out X (Below.refl _ _)
  have HF1 := Lib.hid (fun (Y : World) => few_any d x1 x2 n1 c1 n2 c2 Y)
  have HF2 := Lib.hid (fun (Y : World) => few_any e x3 x4 n3 c3 n4 c4 Y)
  by_cases h1 : n1 ≤ 20 ∧ n2 ≤ 20
  · have h2 : ¬ (n3 ≤ 20 ∧ n4 ≤ 20) := fun q => h ⟨h1, q⟩
    rw [decide_eq_true h1] at HF1
    rw [decide_eq_false h2] at HF2
    clear hX b1 b2 hW hWk h h1 h2
    go_enter Tryz.func8, Tryz.ntmps8
    go_wp2_with fail
    rw [HX.out]
    go_wp2_with (first | (go_at_call 9; with_reducible refine (HF1.out _).mono ?_; rintro r w1 ⟨rfl, h1⟩; have H1 := Lib.hid (h1); obtain ⟨k0, k1, k2, k3, k4, k5⟩ := HP.out w1 H1.out; clear h1) | (go_at_call 9; with_reducible refine (HF2.out _).mono ?_; rintro r w2 ⟨rfl, h2⟩; have H2 := Lib.hid (H1.out.trans (h2.mono H1.out.size)); obtain ⟨k0, k1, k2, k3, k4, k5⟩ := HP.out w2 H2.out; clear h2) | (go_at_call 10; refine (HWk.out _ H2.out).mono ?_; rintro r w9 ⟨rfl, h9⟩; have H9 := Lib.hid (H2.out.trans (h9.mono H2.out.size)); clear h9) | fail)
    go_ret
    exact ⟨rfl, H0.out.trans (H9.out.mono H0.out.size)⟩
  · rw [decide_eq_false h1] at HF1
    clear hX b1 b2 hW hWk h h1 HF2
    go_enter Tryz.func8, Tryz.ntmps8
    go_wp2_with fail
    rw [HX.out]
    go_wp2_with (first | (go_at_call 9; with_reducible refine (HF1.out _).mono ?_; rintro r w1 ⟨rfl, h1⟩; have H1 := Lib.hid (h1); obtain ⟨k0, k1, k2, k3, k4, k5⟩ := HP.out w1 H1.out; clear h1) | (go_at_call 10; refine (HWk.out _ H1.out).mono ?_; rintro r w9 ⟨rfl, h9⟩; have H9 := Lib.hid (H1.out.trans (h9.mono H1.out.size)); clear h9) | fail)
    go_ret
    exact ⟨rfl, H0.out.trans (H9.out.mono H0.out.size)⟩

set_option maxRecDepth 100000 in
set_option maxHeartbeats 8000000 in
theorem holds9_walk (d e : Nat) (x1 x2 x3 x4 : Option Addr) (n1 c1 n2 c2 n3 c3 n4 c4 : Nat) (w : World) (cs es : List (List Nat × Nat)) (rs ts : List (List Nat × Nat × Nat)) (hd : d < 18446744073709551616) (he : e < 18446744073709551616) (hcs : ClA w (.slice x1 n1 c1) cs) (hrs : RlA w (.slice x2 n2 c2) rs) (hes : ClA w (.slice x3 n3 c3) es) (hts : RlA w (.slice x4 n4 c4) ts) (h : (n1 ≤ 20 ∧ n2 ≤ 20) ∧ n3 ≤ 20 ∧ n4 ≤ 20) (hT : TZ w) (h10 : T10 w) (hWk : ∀ Y, Below w.heap.size w Y → Calls Tryz.prog 10 #[] Y fun e w' => e = .returned (.bool true) ∧ Below Y.heap.size Y w') :
    Calls Tryz.prog 8 #[.agg #[.int .u64 d, .slice x1 n1 c1, .slice x2 n2 c2], .agg #[.int .u64 e, .slice x3 n3 c3, .slice x4 n4 c4]] w fun r w' => r = .returned (.bool true) ∧ Below w.heap.size w w' := by
  obtain ⟨X, hX⟩ : ∃ X, (w.alloc (.cells #[.int .u64 d, .slice x1 n1 c1, .slice x2 n2 c2] 27)).alloc (.cells #[.int .u64 e, .slice x3 n3 c3, .slice x4 n4 c4] 27) = X := ⟨_, rfl⟩
  have b1 : Blk X w.heap.size 27 #[.int .u64 d, .slice x1 n1 c1, .slice x2 n2 c2] := by rw [← hX]; exact (Blk.new w _ _).alloc _
  have b2 : Blk X (w.heap.size + 1) 27 #[.int .u64 e, .slice x3 n3 c3, .slice x4 n4 c4] := by rw [← hX]; exact Blk.newS w _ _ _
  have hW : Below w.heap.size w X := by rw [← hX]; exact balloc (balloc (Below.refl _ _) _) _
  have HX := Lib.hid hX
  have HP := Lib.hid (fun (Y : World) (hY : Below X.heap.size X Y) => (by
    have q := b1.keep hY
    have r := b2.keep hY
    exact ⟨cell_of_row _ _ 0 _ _ _ q, cell_of_row _ _ 1 _ _ _ q, cell_of_row _ _ 2 _ _ _ q, cell_of_row _ _ 0 _ _ _ r, cell_of_row _ _ 1 _ _ _ r, cell_of_row _ _ 2 _ _ _ r⟩ : Y.cell? ⟨w.heap.size, 0, none⟩ = some (.int .u64 d) ∧ Y.cell? ⟨w.heap.size, 1, none⟩ = some (.slice x1 n1 c1) ∧ Y.cell? ⟨w.heap.size, 2, none⟩ = some (.slice x2 n2 c2) ∧ Y.cell? ⟨w.heap.size + 1, 0, none⟩ = some (.int .u64 e) ∧ Y.cell? ⟨w.heap.size + 1, 1, none⟩ = some (.slice x3 n3 c3) ∧ Y.cell? ⟨w.heap.size + 1, 2, none⟩ = some (.slice x4 n4 c4)))
  have HWk := Lib.hid (fun (Y : World) (hY : Below X.heap.size X Y) => hWk Y (hW.trans (hY.mono hW.size)))
  have H0 := Lib.hid hW
  obtain ⟨k0, k1, k2, k3, k4, k5⟩ := HP.out X (Below.refl _ _)
  have HF1 := Lib.hid (fun (Y : World) => few_any d x1 x2 n1 c1 n2 c2 Y)
  have HF2 := Lib.hid (fun (Y : World) => few_any e x3 x4 n3 c3 n4 c4 Y)
  rw [decide_eq_true h.1] at HF1
  rw [decide_eq_true h.2] at HF2
  have HT1 := Lib.hid (fun (Y : World) (hY : Below X.heap.size X Y) => ptext_any d (.slice x1 n1 c1) (.slice x2 n2 c2) cs rs Y hd (hcs.new (hW.trans (hY.mono hW.size))) (hrs.new (hW.trans (hY.mono hW.size))) (hT.keep (hW.trans (hY.mono hW.size))) (h10.keep (hW.trans (hY.mono hW.size))))
  have HT2 := Lib.hid (fun (Y : World) (hY : Below X.heap.size X Y) => ptext_any e (.slice x3 n3 c3) (.slice x4 n4 c4) es ts Y he (hes.new (hW.trans (hY.mono hW.size))) (hts.new (hW.trans (hY.mono hW.size))) (hT.keep (hW.trans (hY.mono hW.size))) (h10.keep (hW.trans (hY.mono hW.size))))
  have HSM := Lib.hid (fun (Y : World) (hY : Below X.heap.size X Y) => psame_any d e (.slice x1 n1 c1) (.slice x2 n2 c2) (.slice x3 n3 c3) (.slice x4 n4 c4) cs es rs ts Y (hcs.new (hW.trans (hY.mono hW.size))) (hrs.new (hW.trans (hY.mono hW.size))) (hes.new (hW.trans (hY.mono hW.size))) (hts.new (hW.trans (hY.mono hW.size))))
  have hiff : chk d cs rs = 0 → chk e es ts = 0 → (txE d cs rs = txE e es ts ↔ d = e ∧ cs = es ∧ rs = ts) := fun q1 q2 => by
    unfold txE
    rw [if_pos q1, if_pos q2]
    constructor
    · exact txP_inj hd he (fun c hc => hcs.1 c hc) (fun c hc => hes.1 c hc) (fun c hc => ⟨(hrs.1 c hc).1, (hrs.1 c hc).2.2⟩) (fun c hc => ⟨(hts.1 c hc).1, (hts.1 c hc).2.2⟩)
    · rintro ⟨rfl, rfl, rfl⟩; rfl
  obtain ⟨ok, hok⟩ : ∃ b, decide (d = e ∧ cs = es ∧ rs = ts) = b := ⟨_, rfl⟩
  obtain ⟨S, hS⟩ : ∃ S, (⟨(txE d cs rs).toArray⟩ : ByteArray) = S := ⟨_, rfl⟩
  obtain ⟨T, hTt⟩ : ∃ S, (⟨(txE e es ts).toArray⟩ : ByteArray) = S := ⟨_, rfl⟩
  obtain ⟨p, hp⟩ : ∃ c, chk d cs rs = c := ⟨_, rfl⟩
  obtain ⟨q, hq⟩ : ∃ c, chk e es ts = c := ⟨_, rfl⟩
  have heq : p = 0 → q = 0 → (S.toList == T.toList) = ok := fun q1 q2 => by
    have := hiff (hp.trans q1) (hq.trans q2)
    rw [← hok, Bool.eq_iff_iff, beq_iff_eq, decide_eq_true_iff, ← hS, ← hTt, ByteArray.toList_eq, ByteArray.toList_eq]
    exact this
  rw [hS, hp] at HT1
  rw [hTt, hq] at HT2
  rw [hok] at HSM
  clear hX b1 b2 hW hWk h hcs hrs hes hts hT h10 hiff hS hTt hp hq hok hd he
  by_cases hp : p = 0
  · subst hp
    by_cases hq : q = 0
    · subst hq
      have hE := heq rfl rfl
      clear heq
      have hoo : (ok == ok) = true := by simp
      go_enter Tryz.func8, Tryz.ntmps8
      go_wp2_with fail
      rw [HX.out]
      go_wp2_with (first | (go_at_call 9; with_reducible refine (HF1.out _).mono ?_; rintro r w1 ⟨rfl, h1⟩; have H1 := Lib.hid (h1); obtain ⟨k0, k1, k2, k3, k4, k5⟩ := HP.out w1 H1.out; clear h1) | (go_at_call 9; with_reducible refine (HF2.out _).mono ?_; rintro r w2 ⟨rfl, h2⟩; have H2 := Lib.hid (H1.out.trans (h2.mono H1.out.size)); obtain ⟨k0, k1, k2, k3, k4, k5⟩ := HP.out w2 H2.out; clear h2) | (go_at_call 18; with_reducible refine (HT1.out _ H2.out).mono ?_; rintro r w3 ⟨rfl, h3⟩; have H3 := Lib.hid (H2.out.trans (h3.mono H2.out.size)); obtain ⟨k0, k1, k2, k3, k4, k5⟩ := HP.out w3 H3.out; clear h3) | (go_at_call 18; with_reducible refine (HT2.out _ H3.out).mono ?_; rintro r w4 ⟨rfl, h4⟩; have H4 := Lib.hid (H3.out.trans (h4.mono H3.out.size)); obtain ⟨k0, k1, k2, k3, k4, k5⟩ := HP.out w4 H4.out; clear h4) | (go_at_call 13; refine (num_any9 _ _).mono ?_; rintro r w8 ⟨rfl, rfl⟩) | (go_at_call 24; refine (HSM.out _ (by first | exact H4.out | exact H4.out.drew)).mono ?_; rintro r w5 ⟨rfl, h5⟩; have H5 := Lib.hid (H4.out.trans (h5.mono H4.out.size)); clear h5) | (go_at_call 10; refine (HWk.out _ H5.out).mono ?_; rintro r w9 ⟨rfl, h9⟩; have H9 := Lib.hid (H5.out.trans (h9.mono H5.out.size)); clear h9) | fail)
      go_ret
      exact ⟨rfl, H0.out.trans (H9.out.mono H0.out.size)⟩
    · have g0 : ((q : Int) == (0 : Int)) = false := by simp; omega
      clear heq hq HSM
      go_enter Tryz.func8, Tryz.ntmps8
      go_wp2_with fail
      rw [HX.out]
      go_wp2_with (first | (go_at_call 9; with_reducible refine (HF1.out _).mono ?_; rintro r w1 ⟨rfl, h1⟩; have H1 := Lib.hid (h1); obtain ⟨k0, k1, k2, k3, k4, k5⟩ := HP.out w1 H1.out; clear h1) | (go_at_call 9; with_reducible refine (HF2.out _).mono ?_; rintro r w2 ⟨rfl, h2⟩; have H2 := Lib.hid (H1.out.trans (h2.mono H1.out.size)); obtain ⟨k0, k1, k2, k3, k4, k5⟩ := HP.out w2 H2.out; clear h2) | (go_at_call 18; with_reducible refine (HT1.out _ H2.out).mono ?_; rintro r w3 ⟨rfl, h3⟩; have H3 := Lib.hid (H2.out.trans (h3.mono H2.out.size)); obtain ⟨k0, k1, k2, k3, k4, k5⟩ := HP.out w3 H3.out; clear h3) | (go_at_call 18; with_reducible refine (HT2.out _ H3.out).mono ?_; rintro r w4 ⟨rfl, h4⟩; have H4 := Lib.hid (H3.out.trans (h4.mono H3.out.size)); obtain ⟨k0, k1, k2, k3, k4, k5⟩ := HP.out w4 H4.out; clear h4) | (go_at_call 13; refine (num_any9 _ _).mono ?_; rintro r w8 ⟨rfl, rfl⟩) | (go_at_call 10; refine (HWk.out _ H4.out).mono ?_; rintro r w9 ⟨rfl, h9⟩; have H9 := Lib.hid (H4.out.trans (h9.mono H4.out.size)); clear h9) | fail)
      go_ret
      exact ⟨rfl, H0.out.trans (H9.out.mono H0.out.size)⟩
  · have g0 : ((p : Int) == (0 : Int)) = false := by simp; omega
    clear heq hp HSM
    go_enter Tryz.func8, Tryz.ntmps8
    go_wp2_with fail
    rw [HX.out]
    go_wp2_with (first | (go_at_call 9; with_reducible refine (HF1.out _).mono ?_; rintro r w1 ⟨rfl, h1⟩; have H1 := Lib.hid (h1); obtain ⟨k0, k1, k2, k3, k4, k5⟩ := HP.out w1 H1.out; clear h1) | (go_at_call 9; with_reducible refine (HF2.out _).mono ?_; rintro r w2 ⟨rfl, h2⟩; have H2 := Lib.hid (H1.out.trans (h2.mono H1.out.size)); obtain ⟨k0, k1, k2, k3, k4, k5⟩ := HP.out w2 H2.out; clear h2) | (go_at_call 18; with_reducible refine (HT1.out _ H2.out).mono ?_; rintro r w3 ⟨rfl, h3⟩; have H3 := Lib.hid (H2.out.trans (h3.mono H2.out.size)); obtain ⟨k0, k1, k2, k3, k4, k5⟩ := HP.out w3 H3.out; clear h3) | (go_at_call 18; with_reducible refine (HT2.out _ H3.out).mono ?_; rintro r w4 ⟨rfl, h4⟩; have H4 := Lib.hid (H3.out.trans (h4.mono H3.out.size)); obtain ⟨k0, k1, k2, k3, k4, k5⟩ := HP.out w4 H4.out; clear h4) | (go_at_call 13; refine (num_any9 _ _).mono ?_; rintro r w8 ⟨rfl, rfl⟩) | (go_at_call 10; refine (HWk.out _ H4.out).mono ?_; rintro r w9 ⟨rfl, h9⟩; have H9 := Lib.hid (H4.out.trans (h9.mono H4.out.size)); clear h9) | fail)
    go_ret
    exact ⟨rfl, H0.out.trans (H9.out.mono H0.out.size)⟩

end Go.Proofs.YtenepkgjdoddgaaGreatDoor
