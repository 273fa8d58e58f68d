/- Texts laid into one: Pg. -/
import Derived.Test.YtenepkgjdoddgaaGreatDoorRi
import Derived.Lib.MinMax
/- policy: Check. -/
namespace Go.Proofs.YtenepkgjdoddgaaGreatDoor
open Go.RowKit Go.Shelf

/-- Is there a release above what its address may know? -/
def wrg (d : Nat) (cs : List (List Nat × Nat)) (rs : List (List Nat × Nat × Nat)) : Bool := rs.any fun r => !sub r.2.2 (clr d r.1 cs)
theorem wrg_step (d : Nat) (cs : List (List Nat × Nat)) (rs : List (List Nat × Nat × Nat)) (k : Nat) (r : List Nat × Nat × Nat) (h : rs[k]? = some r) : wrg d cs (rs.drop k) = (!sub r.2.2 (clr d r.1 cs) || wrg d cs (rs.drop (k + 1))) := by
  rw [List.drop_eq_getElem_cons (List.getElem?_eq_some_iff.1 h).1, (List.getElem?_eq_some_iff.1 h).2]
  rfl

set_option maxRecDepth 100000 in
set_option maxHeartbeats 4000000 in
theorem index_any (d gp : Nat) (cv rv : Value) (cs : List (List Nat × Nat)) (rs : List (List Nat × Nat × Nat)) (w : World) (hd : d < 18446744073709551616) (hp : Blk w gp 27 #[.int .u64 d, cv, rv]) (hcs : ClA w cv cs) (hrs : RlA w rv rs) :
    Calls Tryz.prog 77 #[rv, .func (.func 42) #[] #[.pointer (some ⟨gp, 0, none⟩)]] w fun e w' => (∃ i : Int, e = .returned (.int .i64 i) ∧ decide (0 ≤ i) = wrg d cs rs) ∧ Below w.heap.size w w' := by
  have HW := Lib.hid (fun (Y : World) (hY : Below w.heap.size w Y) (r : List Nat × Nat × Nat) (hr : r ∈ rs) => wrong_any d cv rv cs r gp Y hd (hp.keep hY) (hcs.new hY) (hrs.1 r hr).1 (hrs.1 r hr).2.2)
  have H0 := Lib.hid hrs
  obtain ⟨_, x, cap, rfl, hl, _⟩ := hrs
  obtain ⟨n, hn⟩ : ∃ n, rs.length = n := ⟨_, rfl⟩
  have HN := Lib.hid hn
  rw [hn] at hl ⊢
  clear hcs hp hn hd
  go_enter Tryz.func77, Tryz.ntmps77
  go_wp2_with fail
  go_loopw [8] (fun t wr => ∃ k : Nat, k ≤ n ∧ t = .int .i64 k ∧ Below w.heap.size w wr ∧ wrg d cs rs = wrg d cs (rs.drop k)) (fun t _ => n - (intOf t).toNat)
  case atStart => exact ⟨0, Nat.zero_le _, rfl, Below.refl _ _, rfl⟩
  case round =>
    obtain ⟨k, hk, rfl, hXw, hcl⟩ := hrel
    by_cases hlt : k < n
    · obtain ⟨r, hc⟩ : ∃ c, rs[k]? = some c := ⟨_, List.getElem?_eq_getElem (by have := HN.out; omega)⟩
      have hca := (H0.out.1 r (List.mem_of_getElem? hc)).1
      obtain ⟨_, x', cap', he, _, hcells⟩ := H0.out.new hXw
      obtain ⟨b, o, hx', hbl, hrng⟩ := hcells (fun e => by rw [e] at hc; cases hc)
      injection he with e1 e2 e3
      rw [← e1] at hx'
      subst hx'
      have hr := hrng k r hc
      obtain ⟨dd, hd1, hd2⟩ := und_release
      have g0 : (k : Int) < (n : Int) := by omega
      have g1 : (0 : Int) ≤ (k : Int) := by omega
      have g2 : IntKind.i64.wrap ((k : Int) + 1) = ((k + 1 : Nat) : Int) := IntWalk.i64_in _ (by omega)
      have hst := wrg_step d cs rs k r hc
      have HC := Lib.hid (HW.out wr hXw r (List.mem_of_getElem? hc))
      obtain ⟨y, hy⟩ : ∃ y, (!sub r.2.2 (clr d r.1 cs)) = y := ⟨_, rfl⟩
      rw [hy] at HC hst
      have HS := Lib.hid (And.intro hst (And.intro hcl (And.intro hXw (And.intro hr (And.intro hca (And.intro hd1 hd2))))))
      clear hst hcl hXw hr hrng hcells e1 e2 e3 hc hca hd1 hd2 hy
      go_upto_region 4 with fail
      refine wp_region_lit ?_
      refine wpList_plain rfl fun K hK => ?_
      go_simp
      refine hK _ _ ?_
      clear hK K
      refine wpList_plain rfl fun K hK => ?_
      go_simp
      refine hK _ _ ?_
      clear hK K
      refine wpList_plain rfl fun K hK => ?_
      go_simp
      refine hK _ _ ?_
      clear hK K
      refine wpList_plain rfl fun K hK => ?_
      go_simp
      refine hK _ _ ?_
      clear hK K
      refine wpList_load_midA rfl 74 (.tmp 14) rfl b (o + k * 22) rfl (rlC r) dd HS.out.2.2.2.1 HS.out.2.2.2.2.2.1 HS.out.2.2.2.2.2.2 (by rw [info_release, rlC_size HS.out.2.2.2.2.1]) ?_
      cases y
      · go_wp2_with (first | (refine HC.out.mono ?_; rintro e w4 ⟨rfl, hb4⟩; have HB := Lib.hid hb4; clear hb4) | fail)
        obtain ⟨s1, s2, s3, _⟩ := HS.out
        rw [Bool.false_or] at s1
        exact ⟨⟨k + 1, by omega, congrArg (Value.int .i64) (by omega), s3.trans (HB.out.mono s3.size), s2.trans s1⟩, by simp [intOf]; omega⟩
      · go_wp2_with (first | (refine HC.out.mono ?_; rintro e w4 ⟨rfl, hb4⟩; have HB := Lib.hid hb4; clear hb4) | fail)
        go_ret
        obtain ⟨s1, s2, s3, _⟩ := HS.out
        exact ⟨⟨(k : Int), rfl, by rw [s2, s1, Bool.true_or]; exact decide_eq_true g1⟩, s3.trans (HB.out.mono s3.size)⟩
    · obtain rfl : n = k := by omega
      have he : wrg d cs rs = false := by rw [hcl, List.drop_of_length_le (by rw [HN.out]; exact Nat.le_refl _)]; rfl
      have HE := Lib.hid (And.intro he hXw)
      clear he hcl hXw
      go_wp2_with fail
      go_ret
      exact ⟨⟨-1, rfl, by rw [HE.out.1]; rfl⟩, HE.out.2⟩
set_option maxRecDepth 100000 in
set_option maxHeartbeats 4000000 in
theorem contains_any (d gp : Nat) (cv rv : Value) (cs : List (List Nat × Nat)) (rs : List (List Nat × Nat × Nat)) (w : World) (hd : d < 18446744073709551616) (hp : Blk w gp 27 #[.int .u64 d, cv, rv]) (hcs : ClA w cv cs) (hrs : RlA w rv rs) :
    Calls Tryz.prog 46 #[rv, .func (.func 42) #[] #[.pointer (some ⟨gp, 0, none⟩)]] w fun e w' => e = .returned (.bool (wrg d cs rs)) ∧ Below w.heap.size w w' := by
  have HI := Lib.hid (index_any d gp cv rv cs rs w hd hp hcs hrs)
  clear hcs hp hd hrs
  go_enter Tryz.func46, Tryz.ntmps46
  go_wp2_with (first | (go_at_call 77; refine HI.out.mono ?_; rintro e w1 ⟨⟨i, rfl, hi⟩, hb⟩; have HB := Lib.hid (And.intro hi hb); clear hi hb) | fail)
  go_ret
  exact ⟨by rw [← HB.out.1]; simp, HB.out.2⟩
end Go.Proofs.YtenepkgjdoddgaaGreatDoor

/- policy: Check, the walk. -/
namespace Go.Proofs.YtenepkgjdoddgaaGreatDoor
open Go.RowKit Go.Shelf

def ordC (a b : List Nat × Nat) : Int := ordN (bv a.1) (bv b.1)
/-- A policy's error. -/
def chk (d : Nat) (cs : List (List Nat × Nat)) (rs : List (List Nat × Nat × Nat)) : Nat := if 64 < cs.length ∨ 64 < rs.length then 3 else if rsg ordC cs && rsg ordR rs && !wrg d cs rs then 0 else 2

set_option maxRecDepth 100000 in
set_option maxHeartbeats 4000000 in
theorem check_any (d : Nat) (cv rv : Value) (cs : List (List Nat × Nat)) (rs : List (List Nat × Nat × Nat)) (w : World) (hd : d < 18446744073709551616) (hcs : ClA w cv cs) (hrs : RlA w rv rs) :
    Calls Tryz.prog 14 #[.agg #[.int .u64 d, cv, rv]] w fun e w' => e = .returned (.int .i64 (chk d cs rs : Nat)) ∧ Below w.heap.size w w' := by
  obtain ⟨X, hX⟩ : ∃ X, w.alloc (.cells #[.int .u64 d, cv, rv] 27) = X := ⟨_, rfl⟩
  have b1 : Blk X w.heap.size 27 #[.int .u64 d, cv, rv] := by rw [← hX]; exact Blk.new w _ _
  have hW : Below w.heap.size w X := by rw [← hX]; exact balloc (Below.refl _ _) _
  have HX := Lib.hid hX
  have HC := Lib.hid (fun (Y : World) (hY : Below X.heap.size X Y) => risingC_any cs cv Y (hcs.new (hW.trans (hY.mono hW.size))))
  have HR := Lib.hid (fun (Y : World) (hY : Below X.heap.size X Y) => risingR_any rs rv Y (hrs.new (hW.trans (hY.mono hW.size))))
  have HN := Lib.hid (fun (Y : World) (hY : Below X.heap.size X Y) => contains_any d w.heap.size cv rv cs rs Y hd (b1.keep hY) (hcs.new (hW.trans (hY.mono hW.size))) (hrs.new (hW.trans (hY.mono hW.size))))
  obtain ⟨_, x1, c1, rfl, hl1, _⟩ := hcs
  obtain ⟨_, x2, c2, rfl, hl2, _⟩ := hrs
  have H0 := Lib.hid (And.intro b1 hW)
  have HK := Lib.hid (fun (Y : World) (hY : Below X.heap.size X Y) => (by
    have q := b1.keep hY
    exact ⟨cell_of_row _ _ 1 _ _ _ q, cell_of_row _ _ 2 _ _ _ q⟩ : Y.cell? ⟨w.heap.size, 1, none⟩ = some (.slice x1 cs.length c1) ∧ Y.cell? ⟨w.heap.size, 2, none⟩ = some (.slice x2 rs.length c2)))
  obtain ⟨n1, hn1⟩ : ∃ n, cs.length = n := ⟨_, rfl⟩
  obtain ⟨n2, hn2⟩ : ∃ n, rs.length = n := ⟨_, rfl⟩
  obtain ⟨m, hm⟩ : ∃ m, max n1 n2 = m := ⟨_, rfl⟩
  have g0 : max (n1 : Int) (n2 : Int) = (m : Int) := by omega
  have hk : chk d cs rs = if 64 < m then 3 else if rsg ordC cs && rsg ordR rs && !wrg d cs rs then 0 else 2 := by
    unfold chk
    rw [hn1, hn2]
    by_cases h : 64 < m
    · rw [if_pos h, if_pos (by omega)]
    · rw [if_neg h, if_neg (by omega)]
  rw [hk]
  rw [hn1] at HX HC HK ⊢
  rw [hn2] at HX HR HK HN ⊢
  have hCo : rsg (fun a b : List Nat × Nat => ordN (bv a.1) (bv b.1)) cs = rsg ordC cs := rfl
  rw [hCo] at HC
  obtain ⟨pC, hpC⟩ : ∃ p, rsg ordC cs = p := ⟨_, rfl⟩
  obtain ⟨pR, hpR⟩ : ∃ p, rsg ordR rs = p := ⟨_, rfl⟩
  obtain ⟨pW, hpW⟩ : ∃ p, wrg d cs rs = p := ⟨_, rfl⟩
  rw [hpC] at HC
  rw [hpR] at HR
  rw [hpW] at HN
  rw [hpC, hpR, hpW]
  obtain ⟨k1, k2⟩ := HK.out X (Below.refl _ _)
  clear hX b1 hW hk hm hn1 hn2 hCo hpC hpR hpW hd
  by_cases h64 : 64 < m
  · have g1 : (64 : Int) < (m : Int) := by omega
    rw [if_pos h64]
    clear h64
    go_enter Tryz.func14, Tryz.ntmps14
    go_wp2_with fail
    go_ret
    rw [HX.out]
    exact ⟨rfl, H0.out.2⟩
  · have g1 : ¬ (64 : Int) < (m : Int) := by omega
    rw [if_neg h64]
    clear h64
    cases pC
    · go_enter Tryz.func14, Tryz.ntmps14
      go_wp2_with (first | (go_at_call 44; rw [HX.out]; refine (HC.out _ (Below.refl _ _)).mono ?_; rintro e w1 ⟨rfl, hb1⟩; have HB1 := Lib.hid hb1; clear hb1) | fail)
      go_ret
      exact ⟨rfl, H0.out.2.trans (HB1.out.mono H0.out.2.size)⟩
    · cases pR
      · go_enter Tryz.func14, Tryz.ntmps14
        go_wp2_with (first | (go_at_call 44; rw [HX.out]; refine (HC.out _ (Below.refl _ _)).mono ?_; rintro e w1 ⟨rfl, hb1⟩; have HB1 := Lib.hid hb1; obtain ⟨k3, k4⟩ := HK.out w1 hb1; clear hb1) | (go_at_call 45; refine (HR.out _ HB1.out).mono ?_; rintro e w2 ⟨rfl, hb2⟩; have HB2 := Lib.hid (HB1.out.trans (hb2.mono HB1.out.size)); clear hb2) | fail)
        go_ret
        exact ⟨rfl, H0.out.2.trans (HB2.out.mono H0.out.2.size)⟩
      · cases pW
        · go_enter Tryz.func14, Tryz.ntmps14
          go_wp2_with (first | (go_at_call 44; rw [HX.out]; refine (HC.out _ (Below.refl _ _)).mono ?_; rintro e w1 ⟨rfl, hb1⟩; have HB1 := Lib.hid hb1; obtain ⟨k3, k4⟩ := HK.out w1 hb1; clear hb1) | (go_at_call 45; refine (HR.out _ HB1.out).mono ?_; rintro e w2 ⟨rfl, hb2⟩; have HB2 := Lib.hid (HB1.out.trans (hb2.mono HB1.out.size)); obtain ⟨k5, k6⟩ := HK.out w2 HB2.out; clear hb2) | (go_at_call 46; refine (HN.out _ HB2.out).mono ?_; rintro e w3 ⟨rfl, hb3⟩; have HB3 := Lib.hid (HB2.out.trans (hb3.mono HB2.out.size)); clear hb3) | fail)
          go_ret
          exact ⟨rfl, H0.out.2.trans (HB3.out.mono H0.out.2.size)⟩
        · go_enter Tryz.func14, Tryz.ntmps14
          go_wp2_with (first | (go_at_call 44; rw [HX.out]; refine (HC.out _ (Below.refl _ _)).mono ?_; rintro e w1 ⟨rfl, hb1⟩; have HB1 := Lib.hid hb1; obtain ⟨k3, k4⟩ := HK.out w1 hb1; clear hb1) | (go_at_call 45; refine (HR.out _ HB1.out).mono ?_; rintro e w2 ⟨rfl, hb2⟩; have HB2 := Lib.hid (HB1.out.trans (hb2.mono HB1.out.size)); obtain ⟨k5, k6⟩ := HK.out w2 HB2.out; clear hb2) | (go_at_call 46; refine (HN.out _ HB2.out).mono ?_; rintro e w3 ⟨rfl, hb3⟩; have HB3 := Lib.hid (HB2.out.trans (hb3.mono HB2.out.size)); clear hb3) | fail)
          go_ret
          exact ⟨rfl, H0.out.2.trans (HB3.out.mono H0.out.2.size)⟩
end Go.Proofs.YtenepkgjdoddgaaGreatDoor

