/- code: Push, Mark. -/
import Derived.Test.YtcdmaapjcckbmaaDoorXq
import Derived.Test.YtcdmaapjcckbmaaDoorXf
namespace Go.Proofs.YtcdmaapjcckbmaaDoor
open Go.RowKit Go.Shelf

theorem undWd : Tryd.prog.underlying 40 = some (.array 4 23) := by kernel_rfl
theorem Blk.set4w {X : World} {g : Nat} {t : TypeId} {a0 a1 a2 a3 : Value} (h : Blk X g t #[a0, a1, a2, a3]) (v0 v1 v2 v3 : Value) : Blk ((((X.setCell ⟨g, 0, none⟩ v0).setCell ⟨g, 1, none⟩ v1).setCell ⟨g, 2, none⟩ v2).setCell ⟨g, 3, none⟩ v3) g t #[v0, v1, v2, v3] := by
  have h0 := heap_setCell_same X g 0 _ _ v0 h
  have h1 := heap_setCell_same _ g 1 _ _ v1 h0
  have h2 := heap_setCell_same _ g 2 _ _ v2 h1
  exact heap_setCell_same _ g 3 _ _ v3 h2
theorem below_set4w {n : Nat} {w X : World} {g : Nat} (h : Below n w X) (hg : n ≤ g) (v0 v1 v2 v3 : Value) : Below n w ((((X.setCell ⟨g, 0, none⟩ v0).setCell ⟨g, 1, none⟩ v1).setCell ⟨g, 2, none⟩ v2).setCell ⟨g, 3, none⟩ v3) :=
  (((h.setCell (p := ⟨g, 0, none⟩) hg v0).setCell (p := ⟨g, 1, none⟩) hg v1).setCell (p := ⟨g, 2, none⟩) hg v2).setCell (p := ⟨g, 3, none⟩) hg v3
theorem keep4 {w w1 : World} {cs : Array Value} {t : TypeId} (hw : Below (w.alloc (.cells cs t)).heap.size (w.alloc (.cells cs t)) w1) : Blk w1 w.heap.size t cs ∧ Below w.heap.size w w1 :=
  ⟨Blk.keep (Blk.new w _ _) hw, bstep (balloc (Below.refl _ w) _) hw⟩

set_option maxRecDepth 100000 in
set_option maxHeartbeats 2000000 in
theorem push_none (B : Nat) (v : Value) (l : List Nat) (hl : l.length ≤ 1000) (place : Int) (w : World) (hB : B ≤ w.heap.size) (hv : Bto B w v l) (hs : oaS l place = false) : Calls Tryd.prog 20 #[v, .int .i64 place] w fun e w' => e = .returned (.tuple #[.agg #[.int .u64 0, .int .u64 0, .int .u64 0, .int .u64 0], .bool false]) ∧ Below w.heap.size w w' := by
  have hv2 := hv.new (balloc (Below.refl w.heap.size w) (.cells #[.int .u64 0, .int .u64 0, .int .u64 0, .int .u64 0] 40))
  have HO := Lib.hid (opAt_any B v l hl place _ (by rw [World.size_alloc]; omega) hv2)
  rw [hs] at HO
  clear hs
  generalize oaB l place = z at *
  clear hv hv2 hl hB
  go_enter Tryd.func20, Tryd.ntmps20
  go_wp2_with (first
    | (go_at_call 41; refine (HO.out).mono ?_; rintro e w1 ⟨rfl, hw⟩; have hb := (keep4 hw).1
       have d0 := cell_of_row w1 _ 0 _ _ _ hb
       have d1 := cell_of_row w1 _ 1 _ _ _ hb
       have d2 := cell_of_row w1 _ 2 _ _ _ hb
       have d3 := cell_of_row w1 _ 3 _ _ _ hb
       have fd0 := frozen_of_row w1 _ 0 _ _ hb
       have fd1 := frozen_of_row w1 _ 1 _ _ hb
       have fd2 := frozen_of_row w1 _ 2 _ _ hb
       have fd3 := frozen_of_row w1 _ 3 _ _ hb
       have HH := Lib.hid (keep4 hw); clear hw hb)
    | fail)
  (try simp only [Exit.inBlock, Exit.then])
  refine bodyPost_ret (results_row_tmp rfl _ _ w.heap.size 40 _ (0, 0) _ rfl (Blk.set4w HH.out.1 _ _ _ _) undWd rfl (by kernel_rfl)) rfl ?_
  exact ⟨rfl, below_set4w HH.out.2 (Nat.le_refl _) _ _ _ _⟩
set_option maxRecDepth 100000 in
set_option maxHeartbeats 2000000 in
theorem push_low (B : Nat) (v : Value) (l : List Nat) (hl : l.length ≤ 1000) (place : Int) (w : World) (hB : B ≤ w.heap.size) (hv : Bto B w v l) (hs : oaS l place = true) (hz : oaB l place < 95) : Calls Tryd.prog 20 #[v, .int .i64 place] w fun e w' => e = .returned (.tuple #[.agg #[.int .u64 0, .int .u64 0, .int .u64 0, .int .u64 0], .bool false]) ∧ Below w.heap.size w w' := by
  have hv2 := hv.new (balloc (Below.refl w.heap.size w) (.cells #[.int .u64 0, .int .u64 0, .int .u64 0, .int .u64 0] 40))
  have HO := Lib.hid (opAt_any B v l hl place _ (by rw [World.size_alloc]; omega) hv2)
  rw [hs] at HO
  have hzI : (oaB l place : Int) < 95 := by omega
  clear hs hz
  generalize oaB l place = z at *
  clear hv hv2 hl hB
  go_enter Tryd.func20, Tryd.ntmps20
  go_wp2_with (first
    | (go_at_call 41; refine (HO.out).mono ?_; rintro e w1 ⟨rfl, hw⟩; have hb := (keep4 hw).1
       have d0 := cell_of_row w1 _ 0 _ _ _ hb
       have d1 := cell_of_row w1 _ 1 _ _ _ hb
       have d2 := cell_of_row w1 _ 2 _ _ _ hb
       have d3 := cell_of_row w1 _ 3 _ _ _ hb
       have fd0 := frozen_of_row w1 _ 0 _ _ hb
       have fd1 := frozen_of_row w1 _ 1 _ _ hb
       have fd2 := frozen_of_row w1 _ 2 _ _ hb
       have fd3 := frozen_of_row w1 _ 3 _ _ hb
       have HH := Lib.hid (keep4 hw); clear hw hb)
    | fail)
  (try simp only [Exit.inBlock, Exit.then])
  refine bodyPost_ret (results_row_tmp rfl _ _ w.heap.size 40 _ (0, 0) _ rfl (Blk.set4w HH.out.1 _ _ _ _) undWd rfl (by kernel_rfl)) rfl ?_
  exact ⟨rfl, below_set4w HH.out.2 (Nat.le_refl _) _ _ _ _⟩
set_option maxRecDepth 100000 in
set_option maxHeartbeats 2000000 in
theorem push_high (B : Nat) (v : Value) (l : List Nat) (hl : l.length ≤ 1000) (place : Int) (w : World) (hB : B ≤ w.heap.size) (hv : Bto B w v l) (hs : oaS l place = true) (hz : 127 < oaB l place) : Calls Tryd.prog 20 #[v, .int .i64 place] w fun e w' => e = .returned (.tuple #[.agg #[.int .u64 0, .int .u64 0, .int .u64 0, .int .u64 0], .bool false]) ∧ Below w.heap.size w w' := by
  have hv2 := hv.new (balloc (Below.refl w.heap.size w) (.cells #[.int .u64 0, .int .u64 0, .int .u64 0, .int .u64 0] 40))
  have HO := Lib.hid (opAt_any B v l hl place _ (by rw [World.size_alloc]; omega) hv2)
  rw [hs] at HO
  have hzI : ¬ (oaB l place : Int) < 95 := by omega
  have hzJ : (127 : Int) < (oaB l place : Int) := by omega
  clear hs hz
  generalize oaB l place = z at *
  clear hv hv2 hl hB
  go_enter Tryd.func20, Tryd.ntmps20
  go_wp2_with (first
    | (go_at_call 41; refine (HO.out).mono ?_; rintro e w1 ⟨rfl, hw⟩; have hb := (keep4 hw).1
       have d0 := cell_of_row w1 _ 0 _ _ _ hb
       have d1 := cell_of_row w1 _ 1 _ _ _ hb
       have d2 := cell_of_row w1 _ 2 _ _ _ hb
       have d3 := cell_of_row w1 _ 3 _ _ _ hb
       have fd0 := frozen_of_row w1 _ 0 _ _ hb
       have fd1 := frozen_of_row w1 _ 1 _ _ hb
       have fd2 := frozen_of_row w1 _ 2 _ _ hb
       have fd3 := frozen_of_row w1 _ 3 _ _ hb
       have HH := Lib.hid (keep4 hw); clear hw hb)
    | fail)
  (try simp only [Exit.inBlock, Exit.then])
  refine bodyPost_ret (results_row_tmp rfl _ _ w.heap.size 40 _ (0, 0) _ rfl (Blk.set4w HH.out.1 _ _ _ _) undWd rfl (by kernel_rfl)) rfl ?_
  exact ⟨rfl, below_set4w HH.out.2 (Nat.le_refl _) _ _ _ _⟩
set_option maxRecDepth 100000 in
set_option maxHeartbeats 2000000 in
theorem push_is (B : Nat) (v : Value) (l : List Nat) (hl : l.length ≤ 1000) (place : Int) (w : World) (hB : B ≤ w.heap.size) (hv : Bto B w v l) (hs : oaS l place = true) (hz1 : 95 ≤ oaB l place) (hz2 : oaB l place ≤ 127) : Calls Tryd.prog 20 #[v, .int .i64 place] w fun e w' => e = .returned (.tuple #[W (nuL (bhL l place.toNat)), .bool true]) ∧ Below w.heap.size w w' := by
  have hv2 := hv.new (balloc (Below.refl w.heap.size w) (.cells #[.int .u64 0, .int .u64 0, .int .u64 0, .int .u64 0] 40))
  have HO := Lib.hid (opAt_any B v l hl place _ (by rw [World.size_alloc]; omega) hv2)
  obtain ⟨p, hp, hpl, hpb⟩ := oaS_place hs
  have hbb := bhL_byte hv.1 p
  have hbl := bhL_len l p
  have hsz := szO_le (l.getD p 0)
  rw [hp, Int.toNat_natCast]
  rw [hs, hp] at HO
  have h1 : ¬ (oaB l (p : Int) : Int) < 95 := by rw [← hp]; omega
  have h2 : ¬ (127 : Int) < (oaB l (p : Int) : Int) := by rw [← hp]; omega
  have HB := Lib.hid (And.intro hbb (And.intro hbl hsz))
  have HV := Lib.hid hv2
  have HP := Lib.hid (And.intro hl hpl)
  clear hbb hbl hsz hp hpb hs hz1 hz2 hv hv2 hl hB hpl
  generalize oaB l (p : Int) = z at *
  go_enter Tryd.func20, Tryd.ntmps20
  go_upto_region 5 with (first
    | (go_at_call 41; refine (HO.out).mono ?_; rintro e w1 ⟨rfl, hw⟩; have H1 := Lib.hid hw; clear hw)
    | (go_at_call 43; refine (behind_any B v l p HP.out.1 HP.out.2 _ (HV.out.new H1.out)).mono ?_; rintro e w2 ⟨g, rfl, hg, hb, hw⟩; have H2 := Lib.hid (And.intro hb hw); clear hb hw)
    | (go_at_call 42; refine (read_fitso _ _ (bhL l p) _ (Bto.of_blk H2.out.1 HB.out.1 (by have := HB.out; omega)) (by have := HB.out; omega)).mono ?_; rintro e w3 ⟨rfl, hw⟩; have H3 := Lib.hid hw; clear hw)
    | fail)
  obtain ⟨w4, he⟩ : ∃ w4, w3.alloc (.cells (Wc (nuL (bhL l p))) 40) = w4 := ⟨_, rfl⟩
  rw [show w3.alloc (.cells #[.int .u64 (lb (nuL (bhL l p)) 0), .int .u64 (lb (nuL (bhL l p)) 1), .int .u64 (lb (nuL (bhL l p)) 2), .int .u64 (lb (nuL (bhL l p)) 3)] 40) = w4 from he]
  have hb : Blk w4 w.heap.size 40 #[.int .u64 0, .int .u64 0, .int .u64 0, .int .u64 0] := by rw [← he]; exact (Blk.keep (Blk.keep (keep4 H1.out).1 H2.out.2) H3.out).alloc _
  have hd : Blk w4 w3.heap.size 40 #[.int .u64 (lb (nuL (bhL l p)) 0), .int .u64 (lb (nuL (bhL l p)) 1), .int .u64 (lb (nuL (bhL l p)) 2), .int .u64 (lb (nuL (bhL l p)) 3)] := by rw [← he]; exact Blk.new w3 _ _
  have hW : Below w.heap.size w w4 := by rw [← he]; exact balloc (bstep (bstep (keep4 H1.out).2 H2.out.2) H3.out) _
  have HH := Lib.hid (And.intro hb hW)
  have c0 := cell_of_row w4 _ 0 _ _ _ hb
  have c1 := cell_of_row w4 _ 1 _ _ _ hb
  have c2 := cell_of_row w4 _ 2 _ _ _ hb
  have c3 := cell_of_row w4 _ 3 _ _ _ hb
  have fc0 := frozen_of_row w4 _ 0 _ _ hb
  have fc1 := frozen_of_row w4 _ 1 _ _ hb
  have fc2 := frozen_of_row w4 _ 2 _ _ hb
  have fc3 := frozen_of_row w4 _ 3 _ _ hb
  have d0 := cell_of_row w4 _ 0 _ _ _ hd
  have d1 := cell_of_row w4 _ 1 _ _ _ hd
  have d2 := cell_of_row w4 _ 2 _ _ _ hd
  have d3 := cell_of_row w4 _ 3 _ _ _ hd
  clear hb hd hW he HO HB HV HP H1 H2 H3
  go_wp2_with fail
  (try simp only [Exit.inBlock, Exit.then])
  refine bodyPost_ret (results_row_tmp rfl _ _ w.heap.size 40 _ (0, 0) _ rfl (Blk.set4w HH.out.1 _ _ _ _) undWd rfl (by kernel_rfl)) rfl ?_
  exact ⟨rfl, below_set4w HH.out.2 (Nat.le_refl _) _ _ _ _⟩
theorem W0_lit : W 0 = .agg #[.int .u64 0, .int .u64 0, .int .u64 0, .int .u64 0] := W_zero
theorem push_any (B : Nat) (v : Value) (l : List Nat) (hl : l.length ≤ 1000) (place : Int) (w : World) (hB : B ≤ w.heap.size) (hv : Bto B w v l) : Calls Tryd.prog 20 #[v, .int .i64 place] w fun e w' => e = .returned (.tuple #[W (pwN l place), .bool (pwS l place)]) ∧ Below w.heap.size w w' := by
  unfold pwN
  cases hs : oaS l place with
  | false =>
    have e : pwS l place = false := by unfold pwS; rw [hs]; rfl
    rw [e, if_neg (by simp), W0_lit]
    exact push_none B v l hl place w hB hv hs
  | true =>
    by_cases h1 : 95 ≤ oaB l place
    · by_cases h2 : oaB l place ≤ 127
      · have e : pwS l place = true := by unfold pwS; rw [hs]; simp [h1, h2]
        rw [e, if_pos rfl]
        exact push_is B v l hl place w hB hv hs h1 h2
      · have e : pwS l place = false := by unfold pwS; simp [h2]
        rw [e, if_neg (by simp), W0_lit]
        exact push_high B v l hl place w hB hv hs (by omega)
    · have e : pwS l place = false := by unfold pwS; simp [h1]
      rw [e, if_neg (by simp), W0_lit]
      exact push_low B v l hl place w hB hv hs (by omega)
/-- Whether a word is a mark's place. -/
def mkS (l : List Nat) (p : Int) : Bool := oaS l p && decide (oaB l p = 91)
def mkB (l : List Nat) (a : Nat) : Bool := smB a && mkS l (smV a)
theorem smV_le (a : Nat) : 0 ≤ smV a ∧ smV a < 18446744073709551616 := by
  unfold smV
  have h1 := lb_nonneg a 0
  have h2 := lb_le a 0
  split <;> omega
theorem mkS_far {l : List Nat} {p : Int} (h : (l.length : Int) ≤ p) : mkS l p = false := by
  unfold mkS
  cases hs : oaS l p with
  | false => rfl
  | true =>
    obtain ⟨q, h1, h2, _⟩ := oaS_place hs
    omega
set_option maxRecDepth 100000 in
set_option maxHeartbeats 2000000 in
theorem mark_any (B : Nat) (v : Value) (l : List Nat) (hl : l.length ≤ 1000) (a : Nat) (w : World) (hB : B ≤ w.heap.size) (hv : Bto B w v l) : Calls Tryd.prog 18 #[v, W a] w fun e w' => e = .returned (.bool (mkB l a)) ∧ Below w.heap.size w w' := by
  have HM := Lib.hid (small_any a)
  obtain ⟨x0, c0, rfl⟩ : ∃ x0 c0, v = .slice x0 l.length c0 := by obtain ⟨_, x, c, h, _⟩ := hv; exact ⟨x, c, h⟩
  have hs0 := smV_le a
  have hW := balloc (Below.refl w.heap.size w) (.cells (Wc a) 40)
  have hv2 := hv.new hW
  have hsz : (w.alloc (.cells (Wc a) 40)).heap.size = w.heap.size + 1 := World.size_alloc _ _
  have HV := Lib.hid (And.intro hv2 (And.intro hW hB))
  have HL := Lib.hid hl
  have gl : IntKind.u64.wrap (l.length : Int) = (l.length : Int) := IntWalk.u64_in _ (by omega)
  have HSZ := Lib.hid hsz
  cases hb : smB a with
  | false =>
    rw [show mkB l a = false by unfold mkB; rw [hb]; rfl]
    rw [hb] at HM
    clear hv hv2 hW hB hsz hl
    generalize l.length = n at *
    go_enter Tryd.func18, Tryd.ntmps18
    go_wp2_with (first
      | (go_at_call 40; refine (HM.out _).mono ?_; rintro e w1 ⟨rfl, hw⟩; have H1 := Lib.hid hw; clear hw)
      | fail)
    go_ret
    exact ⟨rfl, bstep HV.out.2.1 H1.out⟩
  | true =>
    rw [hb] at HM
    by_cases hf : (l.length : Int) ≤ smV a
    · rw [show mkB l a = false by unfold mkB; rw [mkS_far hf]; simp]
      clear hv hv2 hW hB hsz hl hb
      generalize smV a = s at *
      generalize l.length = n at *
      go_enter Tryd.func18, Tryd.ntmps18
      go_wp2_with (first
        | (go_at_call 40; refine (HM.out _).mono ?_; rintro e w1 ⟨rfl, hw⟩; have H1 := Lib.hid hw; clear hw)
        | fail)
      go_ret
      exact ⟨rfl, bstep HV.out.2.1 H1.out⟩
    · have g1 : IntKind.i64.wrap (smV a) = smV a := IntWalk.i64_in _ (by omega)
      rw [show mkB l a = mkS l (smV a) by unfold mkB; rw [hb]; rfl]
      have hms : mkS l (smV a) = (oaS l (smV a) && decide (oaB l (smV a) = 91)) := rfl
      have HO := Lib.hid (fun (X : World) h1 h2 => opAt_any B (.slice x0 l.length c0) l hl (smV a) X h1 h2)
      have hd : ((oaB l (smV a) : Int) == 91) = decide (oaB l (smV a) = 91) := by
        by_cases h : oaB l (smV a) = 91
        · rw [h]; rfl
        · rw [decide_eq_false h, beq_eq_false_iff_ne]; omega
      rw [hms]
      clear hv hv2 hW hB hsz hl hb hms
      generalize oaS l (smV a) = r at *
      generalize decide (oaB l (smV a) = 91) = d at *
      generalize oaB l (smV a) = z at *
      generalize smV a = s at *
      generalize hn : l.length = n at *
      have HN := Lib.hid hn
      clear hn
      cases r <;>
      · go_enter Tryd.func18, Tryd.ntmps18
        go_wp2_with (first
          | (go_at_call 40; refine (HM.out _).mono ?_; rintro e w1 ⟨rfl, hw⟩; have H1 := Lib.hid hw; clear hw)
          | (go_at_call 41; refine (HO.out _ (Nat.le_trans HV.out.2.2 (Nat.le_trans HV.out.2.1.size H1.out.size)) (HV.out.1.new H1.out)).mono ?_; rintro e w2 ⟨rfl, hw⟩; have H2 := Lib.hid hw; clear hw)
          | fail)
        go_ret
        exact ⟨rfl, bstep (bstep HV.out.2.1 H1.out) H2.out⟩
end Go.Proofs.YtcdmaapjcckbmaaDoor
