/- bits' law: BitsHolds: the walk. -/
import Derived.Test.YthjbiojbmjgkbaaDoorDc
import Derived.Test.YthjbiojbmjgkbaaDoorBt
import Derived.Test.YthjbiojbmjgkbaaDoorDg
import Derived.Deep.RegionHeld3
import Derived.Deep.CutRange
import Derived.Deep.DeepCutAuto
namespace Go.Proofs.YthjbiojbmjgkbaaDoor
open Go.RowKit
attribute [local go_sem] ix0 ix1 ix2 ix3
attribute [local irreducible] lb shlN shrN sarN extN mdN
theorem newbox {S X V : World} {cs : Array Value} {t : TypeId} (hX : Below S.heap.size S X) (hk : Below (X.alloc (.cells cs t)).heap.size (X.alloc (.cells cs t)) V) :
    Blk V X.heap.size t cs ∧ S.heap.size ≤ X.heap.size := ⟨(Blk.new X t cs).keep hk, hX.size⟩
theorem newbox3 {S U V : World} {cs : Array Value} {t : TypeId} (hk : Below (S.alloc (.cells cs t)).drew.heap.size (S.alloc (.cells cs t)).drew U) (hj : Below U.heap.size U V) :
    Blk V S.heap.size t cs ∧ S.heap.size ≤ S.heap.size := ⟨(((Blk.new S t cs).drewR).keep hk).keep hj, Nat.le_refl _⟩
theorem zset4 {w : World} {A : Nat} {t : TypeId} (h : Blk w A t #[.int .u64 0, .int .u64 0, .int .u64 0, .int .u64 0]) (n : Nat) :
    Blk ((((w.setCell ⟨A, 0, none⟩ (.int .u64 (lb n 0))).setCell ⟨A, 1, none⟩ (.int .u64 (lb n 1))).setCell ⟨A, 2, none⟩ (.int .u64 (lb n 2))).setCell ⟨A, 3, none⟩ (.int .u64 (lb n 3))) A t (Wc n) := by
  have hz : Wc 0 = #[.int .u64 0, .int .u64 0, .int .u64 0, .int .u64 0] := Value.agg.inj W_zero
  have h' : Blk w A t (Wc 0) := by rw [hz]; exact h
  exact h'.set4 n
theorem newbox2 {S X U V : World} {cs : Array Value} {t : TypeId} (hX : Below S.heap.size S X) (hk : Below (X.alloc (.cells cs t)).heap.size (X.alloc (.cells cs t)) U) (hj : Below U.heap.size U V) :
    Blk V X.heap.size t cs ∧ S.heap.size ≤ X.heap.size := ⟨((Blk.new X t cs).keep hk).keep hj, hX.size⟩

set_option maxRecDepth 100000 in
set_option maxHeartbeats 4000000 in
theorem holds3_walk (a b : Nat) (x y z : Nat) (ha : a < MM) (hb : b < MM) (hx : x < 256) (hy : y < 256) (hz : z < 256) (w : World) (hT : TZ w) :
    Calls Tryd.prog 7 #[W a, W b, .agg #[.int .u8 x, .int .u8 y, .int .u8 z]] w fun e w' => e = .returned (.bool true) ∧ Below w.heap.size w w' := by
  have k0 := ((Blk.new w 25 (Wc a)).alloc (.cells (Wc b) 25)).alloc (.cells #[.int .u8 x, .int .u8 y, .int .u8 z] 42)
  have k1 := (Blk.newS w (.cells (Wc a) 25) 25 (Wc b)).alloc (.cells #[.int .u8 x, .int .u8 y, .int .u8 z] 42)
  have k2 : Blk (((w.alloc (.cells (Wc a) 25)).alloc (.cells (Wc b) 25)).alloc (.cells #[.int .u8 x, .int .u8 y, .int .u8 z] 42)) (w.heap.size + 1 + 1) 42 #[.int .u8 x, .int .u8 y, .int .u8 z] := by
    have h := Blk.newS (w.alloc (.cells (Wc a) 25)) (.cells (Wc b) 25) 42 #[.int .u8 x, .int .u8 y, .int .u8 z]
    rwa [World.size_alloc] at h
  have hW := balloc (balloc (balloc (Below.refl w.heap.size w) (.cells (Wc a) 25)) (.cells (Wc b) 25)) (.cells #[.int .u8 x, .int .u8 y, .int .u8 z] 42)
  have HX := Lib.hid (And.intro k0 (And.intro k1 (And.intro k2 hW)))
  have HT := Lib.hid hT
  have HA := Lib.hid (And.intro ha hb)
  clear k0 k1 k2 hW hT ha hb
  have g1 : IntKind.u64.wrap (x : Int) = x := IntWalk.u64_in _ (by omega)
  have g2 : IntKind.u64.wrap (y : Int) = y := IntWalk.u64_in _ (by omega)
  go_enter Tryd.func7, Tryd.ntmps7
  go_wp2_with fail
  obtain ⟨k0, k1, k2, hW⟩ := HX.out
  obtain ⟨W1, hW1⟩ : ∃ W1, ((w.alloc (.cells (Wc a) 25)).alloc (.cells (Wc b) 25)).alloc (.cells #[.int .u8 x, .int .u8 y, .int .u8 z] 42) = W1 := ⟨_, rfl⟩
  rw [hW1] at k0 k1 k2 hW ⊢
  clear hW1 HX
  have n0 := cell_of_row _ _ 0 _ _ _ k2
  have n1 := cell_of_row _ _ 1 _ _ _ k2
  have HX := Lib.hid (And.intro k0 (And.intro k1 (And.intro k2 hW)))
  clear k0 k1 k2 hW
  go_quiet (fail)
  obtain ⟨k0, k1, k2, hW⟩ := HX.out
  have hD := below_drewN (Below.refl W1.heap.size W1) nq
  obtain ⟨W2, hW2⟩ : ∃ W2, W1.drewN nq = W2 := ⟨_, rfl⟩
  rw [hW2] at hD ⊢
  clear hW2 HX n0 n1
  have HX := Lib.hid (And.intro (k0.keep hD) (And.intro (k1.keep hD) (And.intro (k2.keep hD) (bstep hW hD))))
  clear k0 k1 k2 hW hD W1
  go_wp2_with fail
  refine (rof_any x (by unfold B64; omega) _).mono ?_
  rintro e W3 ⟨rfl, hk⟩
  obtain ⟨k0, k1, k2, hW⟩ := HX.out
  have HX2 := Lib.hid (And.intro (k0.keep hk) (And.intro (k1.keep hk) (And.intro (k2.keep hk) (bstep hW hk))))
  clear HX k0 k1 k2 hW hk
  go_wp2_with fail
  refine (rof_any y (by unfold B64; omega) _).mono ?_
  rintro e W4 ⟨rfl, hk⟩
  obtain ⟨k0, k1, k2, hW⟩ := HX2.out
  have HX := Lib.hid (And.intro (k0.keep hk) (And.intro (k1.keep hk) (And.intro (k2.keep hk) (bstep hW hk))))
  clear HX2 k0 k1 k2 hW hk
  have hs : IntKind.u64.wrap ((x : Int) + y) = ((x + y : Nat) : Int) := by rw [← Int.natCast_add]; exact IntWalk.u64_in _ (by omega)
  go_wp2_with fail
  rw [← Int.natCast_add]
  refine (rof_any (x + y) (by unfold B64; omega) _).mono ?_
  rintro e W5 ⟨rfl, hk⟩
  obtain ⟨k0, k1, k2, hW⟩ := HX.out
  have m0 := ((Blk.new W4 25 (Wc x)).alloc (.cells (Wc y) 25)).keep hk
  have m1 := (Blk.newS W4 (.cells (Wc x) 25) 25 (Wc y)).keep hk
  have k0' := ((k0.alloc (.cells (Wc x) 25)).alloc (.cells (Wc y) 25)).keep hk
  have k1' := ((k1.alloc (.cells (Wc x) 25)).alloc (.cells (Wc y) 25)).keep hk
  have k2' := ((k2.alloc (.cells (Wc x) 25)).alloc (.cells (Wc y) 25)).keep hk
  have hW' := bstep (balloc (balloc hW (.cells (Wc x) 25)) (.cells (Wc y) 25)) hk
  clear k0 k1 k2 hW hk HX
  have HX := Lib.hid (And.intro k0' (And.intro k1' (And.intro k2' (And.intro m0 (And.intro m1 hW')))))
  clear k0' k1' k2' hW' m0 m1
  generalize W4.heap.size = g4 at HX ⊢
  go_upto_region 4 with fail
  obtain ⟨k0, k1, k2, m0, m1, hW⟩ := HX.out
  have k0' := k0.alloc (.cells (Wc (x + y)) 25)
  have k1' := k1.alloc (.cells (Wc (x + y)) 25)
  have k2' := k2.alloc (.cells (Wc (x + y)) 25)
  have m0' := m0.alloc (.cells (Wc (x + y)) 25)
  have m1' := m1.alloc (.cells (Wc (x + y)) 25)
  have m2' := Blk.new W5 25 (Wc (x + y))
  have hW' := balloc hW (.cells (Wc (x + y)) 25)
  clear k0 k1 k2 m0 m1 hW HX
  generalize W5.heap.size = g5 at *
  obtain ⟨S, hS⟩ : ∃ S, W5.alloc (.cells (Wc (x + y)) 25) = S := ⟨_, rfl⟩
  rw [hS] at k0' k1' k2' m0' m1' m2' hW' ⊢
  clear hS W5
  have HX := Lib.hid (And.intro k0' (And.intro k1' (And.intro k2' (And.intro m0' (And.intro m1' (And.intro m2' hW'))))))
  have cx0 : ∀ w', Below S.heap.size S w' → w'.cell? ⟨g4, 0, none⟩ = some (.int .u64 (lb x 0)) := fun w' h => (m0'.keep h).get4.1
  have cx1 : ∀ w', Below S.heap.size S w' → w'.cell? ⟨g4, 1, none⟩ = some (.int .u64 (lb x 1)) := fun w' h => (m0'.keep h).get4.2.1
  have cx2 : ∀ w', Below S.heap.size S w' → w'.cell? ⟨g4, 2, none⟩ = some (.int .u64 (lb x 2)) := fun w' h => (m0'.keep h).get4.2.2.1
  have cx3 : ∀ w', Below S.heap.size S w' → w'.cell? ⟨g4, 3, none⟩ = some (.int .u64 (lb x 3)) := fun w' h => (m0'.keep h).get4.2.2.2.1
  clear k0' k1' k2' m0' m1' m2' hW'
  have h1M : 1 < MM := by decide +kernel
  have hxM : x < MM := Nat.lt_trans hx (by decide +kernel)
  have hs0 : Below S.heap.size S S.drew := (Below.refl _ _).drew
  go_cut [12] from 31 to 33 (fun p wx => ∃ A, p = .pointer (some ⟨A, 0, none⟩) ∧ Blk wx A 25 (Wc (shlN x 1)) ∧ Below S.heap.size S wx)
  case first =>
    go_region_held3 (fun w' => Below S.heap.size S w') (first | assumption | exact rstep (by assumption) (by assumption) | exact balloc (by assumption) _ | exact rstep (balloc (by assumption) _) (by assumption) | exact (((Below.setCell (by assumption) hle _).setCell hle _).setCell hle _).setCell hle _)
      (first
        | (go_at_call 31; refine (rof_any 1 (by unfold B64; omega) _).mono ?_; rintro e wk ⟨rfl, hko⟩; have hkc : Below S.heap.size S wk := rstep hko (by assumption))
        | (go_at_call 18; refine (shl_any x 1 hxM h1M _).mono ?_; rintro e wk ⟨rfl, hks⟩; have hkk : Below S.heap.size S wk := rstep hks (by assumption);
            first
            | (have hN := newbox (S := S) (by assumption) hks; obtain ⟨hB, hle⟩ := hN; obtain ⟨c0, c1, c2, c3, f0, f1, f2, f3⟩ := hB.get4)
            | (have hN := newbox3 (S := S) hko hks; obtain ⟨hB, hle⟩ := hN; obtain ⟨c0, c1, c2, c3, f0, f1, f2, f3⟩ := hB.get4)
            | skip))
    all_goals
      go_wp2_with fail
      go_meet
      first
      | exact ⟨_, rfl, zset4 hB _, by assumption⟩
      | exact ⟨_, rfl, Blk.new _ _ _, by assumption⟩
  case rest =>
    obtain ⟨gp, rfl, kp, hD⟩ := hcut
    clear cx0 cx1 cx2 cx3 hs0
    obtain ⟨k0, k1, k2, m0, m1, m2, hW⟩ := HX.out
    have HY := Lib.hid (And.intro (k0.keep hD) (And.intro (k1.keep hD) (And.intro (k2.keep hD) (And.intro (m0.keep hD) (And.intro (m1.keep hD) (And.intro (m2.keep hD) (And.intro kp (bstep hW hD))))))))
    clear HX k0 k1 k2 m0 m1 m2 hW kp hD
    obtain ⟨ha, hb⟩ := HA.out
    have heq := eq_sameW
    have hz40 : z % 40 < B64 := by unfold B64; omega
    have hzM : z % 40 < MM := Nat.lt_trans (show z % 40 < 40 by omega) (by decide +kernel)
    have hyM : y < MM := Nat.lt_trans hy (by decide +kernel)
    have hxyM : x + y < MM := Nat.lt_trans (show x + y < 512 by omega) (by decide +kernel)
    have e1 : ((z : Int).tmod 40) = ((z % 40 : Nat) : Int) := by rw [Int.tmod_eq_emod_of_nonneg (by omega)]; omega
    have e2 : IntKind.u8.wrap ((z % 40 : Nat) : Int) = ((z % 40 : Nat) : Int) := IntWalk.u8_in _ (by omega)
    have e3 : IntKind.u64.wrap ((z % 40 : Nat) : Int) = ((z % 40 : Nat) : Int) := IntWalk.u64_in _ (by omega)
    obtain ⟨c0, c1, c2, c3, -⟩ := HY.out.1.get4
    obtain ⟨d0, d1, d2, d3, -⟩ := HY.out.2.2.2.2.2.2.1.get4
    go_wp2_with fail
    refine (rdivide_all a (shlN x 1) ha (shl_lt _ _) _).mono ?_
    rintro e W6 ⟨rfl, hk⟩
    rw [shr_div x a hx]
    clear c0 c1 c2 c3 d0 d1 d2 d3
    obtain ⟨k0, k1, k2, m0, m1, m2, kp, hW⟩ := HY.out
    clear HY
    have k0_ := (k0).keep hk
    have k1_ := (k1).keep hk
    have k2_ := (k2).keep hk
    have m0_ := (m0).keep hk
    have m1_ := (m1).keep hk
    have m2_ := (m2).keep hk
    have kp_ := (kp).keep hk
    have hW_ := bstep (hW) hk
    clear k0 k1 k2 m0 m1 m2 kp hW hk
    have HZ := Lib.hid (And.intro k0_ (And.intro k1_ (And.intro k2_ (And.intro m0_ (And.intro m1_ (And.intro m2_ (And.intro kp_ (hW_))))))))
    clear k0_ k1_ k2_ m0_ m1_ m2_ kp_ hW_
    have n2' := (HZ.out.2.2.1.alloc (.cells (Wc (shrN x a)) 25)).alloc (.cells (Wc (mdN a (shlN x 1))) 25)
    have n2 := cell_of_row _ _ 2 _ _ _ n2'
    clear n2'
    go_wp2_with fail
    rw [show ((z : Int) % 40) = ((z % 40 : Nat) : Int) by omega]
    clear e1 e2 e3
    refine (rof_any (z % 40) hz40 _).mono ?_
    rintro e W7 ⟨rfl, hk⟩
    clear n2
    obtain ⟨k0, k1, k2, m0, m1, m2, kp, hW⟩ := HZ.out
    clear HZ
    have k0_ := (((k0).alloc (.cells (Wc (shrN x a)) 25)).alloc (.cells (Wc (mdN a (shlN x 1))) 25)).keep hk
    have k1_ := (((k1).alloc (.cells (Wc (shrN x a)) 25)).alloc (.cells (Wc (mdN a (shlN x 1))) 25)).keep hk
    have k2_ := (((k2).alloc (.cells (Wc (shrN x a)) 25)).alloc (.cells (Wc (mdN a (shlN x 1))) 25)).keep hk
    have m0_ := (((m0).alloc (.cells (Wc (shrN x a)) 25)).alloc (.cells (Wc (mdN a (shlN x 1))) 25)).keep hk
    have m1_ := (((m1).alloc (.cells (Wc (shrN x a)) 25)).alloc (.cells (Wc (mdN a (shlN x 1))) 25)).keep hk
    have m2_ := (((m2).alloc (.cells (Wc (shrN x a)) 25)).alloc (.cells (Wc (mdN a (shlN x 1))) 25)).keep hk
    have kp_ := (((kp).alloc (.cells (Wc (shrN x a)) 25)).alloc (.cells (Wc (mdN a (shlN x 1))) 25)).keep hk
    have hW_ := bstep (balloc (balloc (hW) (.cells (Wc (shrN x a)) 25)) (.cells (Wc (mdN a (shlN x 1))) 25)) hk
    have kq_ := ((Blk.new W6 25 (Wc (shrN x a))).alloc (.cells (Wc (mdN a (shlN x 1))) 25)).keep hk
    have kr_ := (Blk.newS W6 (.cells (Wc (shrN x a)) 25) 25 (Wc (mdN a (shlN x 1)))).keep hk
    clear k0 k1 k2 m0 m1 m2 kp hW hk
    have HZ1 := Lib.hid (And.intro k0_ (And.intro k1_ (And.intro k2_ (And.intro m0_ (And.intro m1_ (And.intro m2_ (And.intro kp_ (And.intro kq_ (And.intro kr_ (hW_))))))))))
    clear k0_ k1_ k2_ m0_ m1_ m2_ kp_ kq_ kr_ hW_
    obtain ⟨c0, c1, c2, c3, -⟩ := (HZ1.out.1.alloc (.cells (Wc (z % 40)) 25)).get4
    obtain ⟨d0, d1, d2, d3, -⟩ := (Blk.new W7 25 (Wc (z % 40))).get4
    go_wp2_with fail
    refine (ext_any (z % 40) a hzM ha _).mono ?_
    rintro e W8 ⟨rfl, hk⟩
    clear c0 c1 c2 c3 d0 d1 d2 d3
    obtain ⟨k0, k1, k2, m0, m1, m2, kp, kq, kr, hW⟩ := HZ1.out
    clear HZ1
    have k0_ := ((k0).alloc (.cells (Wc (z % 40)) 25)).keep hk
    have k1_ := ((k1).alloc (.cells (Wc (z % 40)) 25)).keep hk
    have k2_ := ((k2).alloc (.cells (Wc (z % 40)) 25)).keep hk
    have m0_ := ((m0).alloc (.cells (Wc (z % 40)) 25)).keep hk
    have m1_ := ((m1).alloc (.cells (Wc (z % 40)) 25)).keep hk
    have m2_ := ((m2).alloc (.cells (Wc (z % 40)) 25)).keep hk
    have kp_ := ((kp).alloc (.cells (Wc (z % 40)) 25)).keep hk
    have kq_ := ((kq).alloc (.cells (Wc (z % 40)) 25)).keep hk
    have kr_ := ((kr).alloc (.cells (Wc (z % 40)) 25)).keep hk
    have hW_ := bstep (balloc (hW) (.cells (Wc (z % 40)) 25)) hk
    have pt_ := (Blk.new W7 25 (Wc (z % 40))).keep hk
    clear k0 k1 k2 m0 m1 m2 kp kq kr hW hk
    have HZ2 := Lib.hid (And.intro k0_ (And.intro k1_ (And.intro k2_ (And.intro m0_ (And.intro m1_ (And.intro m2_ (And.intro kp_ (And.intro kq_ (And.intro kr_ (And.intro pt_ (hW_)))))))))))
    clear k0_ k1_ k2_ m0_ m1_ m2_ kp_ kq_ kr_ pt_ hW_
    go_upto_region 8 with fail
    simp only [List.append_eq, List.cons_append, List.nil_append]
    obtain ⟨k0, k1, k2, m0, m1, m2, kp, kq, kr, pt, hW⟩ := HZ2.out
    clear HZ2
    have k0_ := k0.alloc (.cells (Wc (extN (z % 40) a)) 25)
    have k1_ := k1.alloc (.cells (Wc (extN (z % 40) a)) 25)
    have k2_ := k2.alloc (.cells (Wc (extN (z % 40) a)) 25)
    have m0_ := m0.alloc (.cells (Wc (extN (z % 40) a)) 25)
    have m1_ := m1.alloc (.cells (Wc (extN (z % 40) a)) 25)
    have m2_ := m2.alloc (.cells (Wc (extN (z % 40) a)) 25)
    have kp_ := kp.alloc (.cells (Wc (extN (z % 40) a)) 25)
    have kq_ := kq.alloc (.cells (Wc (extN (z % 40) a)) 25)
    have kr_ := kr.alloc (.cells (Wc (extN (z % 40) a)) 25)
    have pt_ := pt.alloc (.cells (Wc (extN (z % 40) a)) 25)
    have pe_ := Blk.new W8 25 (Wc (extN (z % 40) a))
    have hW_ := balloc hW (.cells (Wc (extN (z % 40) a)) 25)
    clear k0 k1 k2 m0 m1 m2 kp kq kr pt hW
    generalize W6.heap.size = g6 at *
    generalize W7.heap.size = g7 at *
    generalize W8.heap.size = g8 at *
    obtain ⟨S8, hS8⟩ : ∃ S8, W8.alloc (.cells (Wc (extN (z % 40) a)) 25) = S8 := ⟨_, rfl⟩
    rw [hS8] at k0_ k1_ k2_ m0_ m1_ m2_ kp_ kq_ kr_ pt_ pe_ hW_ ⊢
    clear hS8
    have k00 : ∀ w', Below S8.heap.size S8 w' → w'.cell? ⟨w.heap.size, 0, none⟩ = some (.int .u64 (lb a 0)) := fun w' h => (k0_.keep h).get4.1
    have k01 : ∀ w', Below S8.heap.size S8 w' → w'.cell? ⟨w.heap.size, 1, none⟩ = some (.int .u64 (lb a 1)) := fun w' h => (k0_.keep h).get4.2.1
    have k02 : ∀ w', Below S8.heap.size S8 w' → w'.cell? ⟨w.heap.size, 2, none⟩ = some (.int .u64 (lb a 2)) := fun w' h => (k0_.keep h).get4.2.2.1
    have k03 : ∀ w', Below S8.heap.size S8 w' → w'.cell? ⟨w.heap.size, 3, none⟩ = some (.int .u64 (lb a 3)) := fun w' h => (k0_.keep h).get4.2.2.2.1
    have k10 : ∀ w', Below S8.heap.size S8 w' → w'.cell? ⟨w.heap.size + 1, 0, none⟩ = some (.int .u64 (lb b 0)) := fun w' h => (k1_.keep h).get4.1
    have k11 : ∀ w', Below S8.heap.size S8 w' → w'.cell? ⟨w.heap.size + 1, 1, none⟩ = some (.int .u64 (lb b 1)) := fun w' h => (k1_.keep h).get4.2.1
    have k12 : ∀ w', Below S8.heap.size S8 w' → w'.cell? ⟨w.heap.size + 1, 2, none⟩ = some (.int .u64 (lb b 2)) := fun w' h => (k1_.keep h).get4.2.2.1
    have k13 : ∀ w', Below S8.heap.size S8 w' → w'.cell? ⟨w.heap.size + 1, 3, none⟩ = some (.int .u64 (lb b 3)) := fun w' h => (k1_.keep h).get4.2.2.2.1
    have m00 : ∀ w', Below S8.heap.size S8 w' → w'.cell? ⟨g4, 0, none⟩ = some (.int .u64 (lb x 0)) := fun w' h => (m0_.keep h).get4.1
    have m01 : ∀ w', Below S8.heap.size S8 w' → w'.cell? ⟨g4, 1, none⟩ = some (.int .u64 (lb x 1)) := fun w' h => (m0_.keep h).get4.2.1
    have m02 : ∀ w', Below S8.heap.size S8 w' → w'.cell? ⟨g4, 2, none⟩ = some (.int .u64 (lb x 2)) := fun w' h => (m0_.keep h).get4.2.2.1
    have m03 : ∀ w', Below S8.heap.size S8 w' → w'.cell? ⟨g4, 3, none⟩ = some (.int .u64 (lb x 3)) := fun w' h => (m0_.keep h).get4.2.2.2.1
    have m10 : ∀ w', Below S8.heap.size S8 w' → w'.cell? ⟨g4 + 1, 0, none⟩ = some (.int .u64 (lb y 0)) := fun w' h => (m1_.keep h).get4.1
    have m11 : ∀ w', Below S8.heap.size S8 w' → w'.cell? ⟨g4 + 1, 1, none⟩ = some (.int .u64 (lb y 1)) := fun w' h => (m1_.keep h).get4.2.1
    have m12 : ∀ w', Below S8.heap.size S8 w' → w'.cell? ⟨g4 + 1, 2, none⟩ = some (.int .u64 (lb y 2)) := fun w' h => (m1_.keep h).get4.2.2.1
    have m13 : ∀ w', Below S8.heap.size S8 w' → w'.cell? ⟨g4 + 1, 3, none⟩ = some (.int .u64 (lb y 3)) := fun w' h => (m1_.keep h).get4.2.2.2.1
    have m20 : ∀ w', Below S8.heap.size S8 w' → w'.cell? ⟨g5, 0, none⟩ = some (.int .u64 (lb (x + y) 0)) := fun w' h => (m2_.keep h).get4.1
    have m21 : ∀ w', Below S8.heap.size S8 w' → w'.cell? ⟨g5, 1, none⟩ = some (.int .u64 (lb (x + y) 1)) := fun w' h => (m2_.keep h).get4.2.1
    have m22 : ∀ w', Below S8.heap.size S8 w' → w'.cell? ⟨g5, 2, none⟩ = some (.int .u64 (lb (x + y) 2)) := fun w' h => (m2_.keep h).get4.2.2.1
    have m23 : ∀ w', Below S8.heap.size S8 w' → w'.cell? ⟨g5, 3, none⟩ = some (.int .u64 (lb (x + y) 3)) := fun w' h => (m2_.keep h).get4.2.2.2.1
    have kp0 : ∀ w', Below S8.heap.size S8 w' → w'.cell? ⟨gp, 0, none⟩ = some (.int .u64 (lb (shlN x 1) 0)) := fun w' h => (kp_.keep h).get4.1
    have kp1 : ∀ w', Below S8.heap.size S8 w' → w'.cell? ⟨gp, 1, none⟩ = some (.int .u64 (lb (shlN x 1) 1)) := fun w' h => (kp_.keep h).get4.2.1
    have kp2 : ∀ w', Below S8.heap.size S8 w' → w'.cell? ⟨gp, 2, none⟩ = some (.int .u64 (lb (shlN x 1) 2)) := fun w' h => (kp_.keep h).get4.2.2.1
    have kp3 : ∀ w', Below S8.heap.size S8 w' → w'.cell? ⟨gp, 3, none⟩ = some (.int .u64 (lb (shlN x 1) 3)) := fun w' h => (kp_.keep h).get4.2.2.2.1
    have kq0 : ∀ w', Below S8.heap.size S8 w' → w'.cell? ⟨g6, 0, none⟩ = some (.int .u64 (lb (shrN x a) 0)) := fun w' h => (kq_.keep h).get4.1
    have kq1 : ∀ w', Below S8.heap.size S8 w' → w'.cell? ⟨g6, 1, none⟩ = some (.int .u64 (lb (shrN x a) 1)) := fun w' h => (kq_.keep h).get4.2.1
    have kq2 : ∀ w', Below S8.heap.size S8 w' → w'.cell? ⟨g6, 2, none⟩ = some (.int .u64 (lb (shrN x a) 2)) := fun w' h => (kq_.keep h).get4.2.2.1
    have kq3 : ∀ w', Below S8.heap.size S8 w' → w'.cell? ⟨g6, 3, none⟩ = some (.int .u64 (lb (shrN x a) 3)) := fun w' h => (kq_.keep h).get4.2.2.2.1
    have pt0 : ∀ w', Below S8.heap.size S8 w' → w'.cell? ⟨g7, 0, none⟩ = some (.int .u64 (lb (z % 40) 0)) := fun w' h => (pt_.keep h).get4.1
    have pt1 : ∀ w', Below S8.heap.size S8 w' → w'.cell? ⟨g7, 1, none⟩ = some (.int .u64 (lb (z % 40) 1)) := fun w' h => (pt_.keep h).get4.2.1
    have pt2 : ∀ w', Below S8.heap.size S8 w' → w'.cell? ⟨g7, 2, none⟩ = some (.int .u64 (lb (z % 40) 2)) := fun w' h => (pt_.keep h).get4.2.2.1
    have pt3 : ∀ w', Below S8.heap.size S8 w' → w'.cell? ⟨g7, 3, none⟩ = some (.int .u64 (lb (z % 40) 3)) := fun w' h => (pt_.keep h).get4.2.2.2.1
    have pe0 : ∀ w', Below S8.heap.size S8 w' → w'.cell? ⟨g8, 0, none⟩ = some (.int .u64 (lb (extN (z % 40) a) 0)) := fun w' h => (pe_.keep h).get4.1
    have pe1 : ∀ w', Below S8.heap.size S8 w' → w'.cell? ⟨g8, 1, none⟩ = some (.int .u64 (lb (extN (z % 40) a) 1)) := fun w' h => (pe_.keep h).get4.2.1
    have pe2 : ∀ w', Below S8.heap.size S8 w' → w'.cell? ⟨g8, 2, none⟩ = some (.int .u64 (lb (extN (z % 40) a) 2)) := fun w' h => (pe_.keep h).get4.2.2.1
    have pe3 : ∀ w', Below S8.heap.size S8 w' → w'.cell? ⟨g8, 3, none⟩ = some (.int .u64 (lb (extN (z % 40) a) 3)) := fun w' h => (pe_.keep h).get4.2.2.2.1
    have HW := Lib.hid hW_
    have HWK := Lib.hid (fun X (h : Below S8.heap.size S8 X) => works_any X (HT.out.below HT.out.lt (bstep hW_ h)))
    have hs0 : Below S8.heap.size S8 S8.drew := (Below.refl _ _).drew
    clear hW_ k0_ k1_ k2_ m0_ m1_ m2_ kp_ kq_ kr_ pt_ pe_
    have SL1 := Lib.hid (show ∀ w, Calls Tryd.prog 18 #[W x, W a] w fun e w' => e = .returned (W (shlN x a)) ∧ Below w.heap.size w w' from fun w => shl_any x a hxM ha w)
    have SL2 := Lib.hid (show ∀ w, Calls Tryd.prog 18 #[W y, W (shlN x a)] w fun e w' => e = .returned (W (shlN (x + y) a)) ∧ Below w.heap.size w w' from fun w => by rw [← shl_shl x y a]; exact shl_any y (shlN x a) hyM (shl_lt _ _) w)
    have SL3 := Lib.hid (show ∀ w, Calls Tryd.prog 18 #[W (x + y), W a] w fun e w' => e = .returned (W (shlN (x + y) a)) ∧ Below w.heap.size w w' from fun w => shl_any (x + y) a hxyM ha w)
    have SR1 := Lib.hid (show ∀ w, Calls Tryd.prog 20 #[W x, W a] w fun e w' => e = .returned (W (shrN x a)) ∧ Below w.heap.size w w' from fun w => shr_any x a hxM ha w)
    have SR2 := Lib.hid (show ∀ w, Calls Tryd.prog 20 #[W y, W (shrN x a)] w fun e w' => e = .returned (W (shrN (x + y) a)) ∧ Below w.heap.size w w' from fun w => by rw [← shr_shr x y a ha]; exact shr_any y (shrN x a) hyM (shr_lt _ _ ha) w)
    have SR3 := Lib.hid (show ∀ w, Calls Tryd.prog 20 #[W (x + y), W a] w fun e w' => e = .returned (W (shrN (x + y) a)) ∧ Below w.heap.size w w' from fun w => shr_any (x + y) a hxyM ha w)
    have SA1 := Lib.hid (show ∀ w, Calls Tryd.prog 22 #[W x, W a] w fun e w' => e = .returned (W (sarN x a)) ∧ Below w.heap.size w w' from fun w => sar_any x a hxM ha w)
    have SA2 := Lib.hid (show ∀ w, Calls Tryd.prog 22 #[W y, W (sarN x a)] w fun e w' => e = .returned (W (sarN (x + y) a)) ∧ Below w.heap.size w w' from fun w => by rw [← sar_sar x y a ha]; exact sar_any y (sarN x a) hyM (sar_lt _ _) w)
    have SA3 := Lib.hid (show ∀ w, Calls Tryd.prog 22 #[W (x + y), W a] w fun e w' => e = .returned (W (sarN (x + y) a)) ∧ Below w.heap.size w w' from fun w => sar_any (x + y) a hxyM ha w)
    have NO1 := Lib.hid (show ∀ w, Calls Tryd.prog 16 #[W (a &&& b)] w fun e w' => e = .returned (W ((a ^^^ (MM - 1)) ||| (b ^^^ (MM - 1)))) ∧ Below w.heap.size w w' from fun w => by rw [← not_and a b ha hb]; exact not_any (a &&& b) w)
    have NO2 := Lib.hid (show ∀ w, Calls Tryd.prog 16 #[W a] w fun e w' => e = .returned (W (a ^^^ (MM - 1))) ∧ Below w.heap.size w w' from fun w => not_any a w)
    have NO3 := Lib.hid (show ∀ w, Calls Tryd.prog 16 #[W b] w fun e w' => e = .returned (W (b ^^^ (MM - 1))) ∧ Below w.heap.size w w' from fun w => not_any b w)
    have MU := Lib.hid (show ∀ w, Calls Tryd.prog 33 #[W a, W (shlN x 1)] w fun e w' => e = .returned (W (shlN x a)) ∧ Below w.heap.size w w' from fun w => by rw [← shl_mul x a hx]; exact rmul_any a (shlN x 1) w)
    have EX := Lib.hid (show ∀ w, Calls Tryd.prog 26 #[W (z % 40), W (extN (z % 40) a)] w fun e w' => e = .returned (W (extN (z % 40) a)) ∧ Below w.heap.size w w' from fun w => (congrArg (fun n => Calls Tryd.prog 26 #[W (z % 40), W (extN (z % 40) a)] w fun e w' => e = .returned (W n) ∧ Below w.heap.size w w') (ext_ext (z % 40) a ha)).mp (ext_any (z % 40) (extN (z % 40) a) hzM (ext_lt _ _ ha) w))
    have AN := Lib.hid (fun (w : World) => and2 a b 2 ha w (t := 25))
    have OR := Lib.hid (fun (w : World) => or2 (a ^^^ (MM - 1)) (b ^^^ (MM - 1)) 2 w (t := 25))
    have XO1 := Lib.hid (fun (w : World) => xor2 a b 2 w (t := 25))
    have hx2 := fun (w : World) => xor2 (a ^^^ b) b 2 w (t := 25)
    rw [xor_xor a b] at hx2
    have XO2 := Lib.hid hx2
    clear hx2 hxM hyM hxyM hzM hz40 ha hb hx hy hz g1 g2 hs
    go_region_held3 (fun w' => Below S8.heap.size S8 w') (first | assumption | exact rstep (by assumption) (by assumption) | exact balloc (by assumption) _ | exact rstep (by assumption) (balloc (by assumption) _))
      (first
        | (go_at_call 18; with_reducible refine (SL1.out _).mono ?_; rintro e wk ⟨rfl, hk⟩)
        | (go_at_call 18; with_reducible refine (SL2.out _).mono ?_; rintro e wk ⟨rfl, hk⟩)
        | (go_at_call 18; with_reducible refine (SL3.out _).mono ?_; rintro e wk ⟨rfl, hk⟩)
        | (go_at_call 20; with_reducible refine (SR1.out _).mono ?_; rintro e wk ⟨rfl, hk⟩)
        | (go_at_call 20; with_reducible refine (SR2.out _).mono ?_; rintro e wk ⟨rfl, hk⟩)
        | (go_at_call 20; with_reducible refine (SR3.out _).mono ?_; rintro e wk ⟨rfl, hk⟩)
        | (go_at_call 22; with_reducible refine (SA1.out _).mono ?_; rintro e wk ⟨rfl, hk⟩)
        | (go_at_call 22; with_reducible refine (SA2.out _).mono ?_; rintro e wk ⟨rfl, hk⟩)
        | (go_at_call 22; with_reducible refine (SA3.out _).mono ?_; rintro e wk ⟨rfl, hk⟩)
        | (go_at_call 16; with_reducible refine (NO1.out _).mono ?_; rintro e wk ⟨rfl, hk⟩)
        | (go_at_call 16; with_reducible refine (NO2.out _).mono ?_; rintro e wk ⟨rfl, hk⟩)
        | (go_at_call 16; with_reducible refine (NO3.out _).mono ?_; rintro e wk ⟨rfl, hk⟩)
        | (go_at_call 33; with_reducible refine (MU.out _).mono ?_; rintro e wk ⟨rfl, hk⟩)
        | (go_at_call 26; with_reducible refine (EX.out _).mono ?_; rintro e wk ⟨rfl, hk⟩)
        | (go_at_call 12; with_reducible refine (AN.out _).mono ?_; rintro e wk ⟨rfl, hk⟩)
        | (go_at_call 14; with_reducible refine (OR.out _).mono ?_; rintro e wk ⟨rfl, hk⟩)
        | (go_at_call 15; with_reducible refine (XO1.out _).mono ?_; rintro e wk ⟨rfl, hk⟩)
        | (go_at_call 15; with_reducible refine (XO2.out _).mono ?_; rintro e wk ⟨rfl, hk⟩)
        | (go_at_call 11; refine (HWK.out _ (by assumption)).mono ?_; rintro e wk ⟨rfl, hk⟩))
    all_goals
      have hX : Below S8.heap.size S8 wk := by assumption
      have HE := Lib.hid (bstep HW.out hX)
      go_wp2
      go_ret
      exact ⟨rfl, HE.out⟩
end Go.Proofs.YthjbiojbmjgkbaaDoor
