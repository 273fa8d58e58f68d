/- slot: within: are all keys of one storage alike in another one? -/
import Derived.Test.YtcfnhilcpfiocaaStk
import Derived.Lib.QuietBelowIn
namespace Go.Proofs.Ytcfnhilcpfiocaa
open Go.RowKit Go.Shelf Go.ChangeMaps Go.MapKept

/-- Are two values alike up to a label? -/
def smP (u v : Nat × Nat) (up : Nat) : Bool := smB u.1 u.2 v.1 v.2 up
/-- Is a key alike in two storages? -/
def kyB (fv fw hv hw : Nat → Option (Nat × Nat)) (up x : Nat) : Bool := smP (lk2 fv fw x) (lk2 hv hw x) up && smP (lk fw x) (lk hw x) up
def WiX (g1 : Nat) (fv fw hv hw : Nat → Option (Nat × Nat)) (up : Nat) (z : World) (c : Code) (_ : List Nat) (X : World) : Prop := c = .exit 0 ∧ Blk X g1 4 #[.bool false] ∧ Chg (fun i => i = g1) z X ∧ ∃ x, hasK fv fw x ∧ kyB fv fw hv hw up x = false
def WiI (g1 : Nat) (fv fw hv hw : Nat → Option (Nat × Nat)) (up : Nat) (z : World) (pre : List Nat) (X : World) : Prop := Blk X g1 4 #[.bool true] ∧ Chg (fun i => i = g1) z X ∧ ∀ x ∈ pre, kyB fv fw hv hw up x = true
theorem WiI.stay {g1 up : Nat} {fv fw hv hw : Nat → Option (Nat × Nat)} {z : World} (hg : g1 < z.heap.size) : Abide z.heap.size (WiI g1 fv fw hv hw up z) := fun pre X Y row h hw2 hr =>
  ⟨h.1.kept hw2 (fun e => by have := hr g1 e.symm; omega), h.2.1.trans (Chg.of hw2) (fun k hk e => by have := hr k e.symm; omega), h.2.2⟩
theorem WiX.stay {g1 up : Nat} {fv fw hv hw : Nat → Option (Nat × Nat)} {z : World} (hg : g1 < z.heap.size) (c : Code) : Abide z.heap.size (WiX g1 fv fw hv hw up z c) := fun pre X Y row h hw2 hr =>
  ⟨h.1, h.2.1.kept hw2 (fun e => by have := hr g1 e.symm; omega), h.2.2.1.trans (Chg.of hw2) (fun k hk e => by have := hr k e.symm; omega), h.2.2.2⟩
/-- One box may be written, and what is new. -/
def SWi (G1 : Nat) (X w' : World) : Prop := Chg (fun i => i = G1) X w' ∧ ∃ v, Blk w' G1 4 #[v]
theorem SWi.call {G1 : Nat} {X w' w'' : World} (h : SWi G1 X w') (k : Below w'.heap.size w' w'') : SWi G1 X w'' := by
  obtain ⟨h1, v, h2⟩ := h
  exact ⟨h1.trans (Chg.new (M := fun i => i = G1) k) (fun _ _ e => e), v, h2.keep k⟩
theorem SWi.set {G1 : Nat} {X w' : World} (h : SWi G1 X w') (v : Value) : SWi G1 X (w'.setCell ⟨G1, 0, none⟩ v) := by
  obtain ⟨h1, u, h2⟩ := h
  exact ⟨h1.set G1 0 v (fun _ => rfl), v, heap_setCell_same w' G1 0 _ _ v h2⟩
theorem SWi.cell {G1 : Nat} {X w' : World} (h : SWi G1 X w') : w'.cell? ⟨G1, 0, none⟩ = some (cellV w' ⟨G1, 0, none⟩) := by
  obtain ⟨_, v, h2⟩ := h
  have := cell_of_row w' G1 0 _ _ _ h2
  unfold cellV; rw [this]; rfl
theorem SWi.frozen {G1 : Nat} {X w' : World} (h : SWi G1 X w') : w'.frozen? ⟨G1, 0, none⟩ = false := by
  obtain ⟨_, v, h2⟩ := h
  exact frozen_of_row w' G1 0 _ _ h2
attribute [local go_sem] Oper.semAt_some
set_option maxRecDepth 100000 in
set_option maxHeartbeats 4000000 in
theorem within_any (g bv bw many g2 cv cw many2 up : Nat) (fv fw hv hw : Nat → Option (Nat × Nat)) (hup : up < 2 ^ 64) (w : World) (h1 : SlB w g bv bw fv fw many) (h2 : SlB w g2 cv cw hv hw many2) :
    Calls Try.prog 36 #[.pointer (some ⟨g, 0, none⟩), .pointer (some ⟨g2, 0, none⟩), .int .u64 (up : Nat)] w fun e w' => ∃ t : Bool, e = .returned (.bool t) ∧ (t = true ↔ ∀ x, hasK fv fw x → kyB fv fw hv hw up x = true) ∧ Below w.heap.size w w' := by
  obtain ⟨W1, hW⟩ : ∃ W1, (((w.alloc (.cells #[.pointer (some ⟨g, 0, none⟩)] 27)).alloc (.cells #[.pointer (some ⟨g2, 0, none⟩)] 27)).alloc (.cells #[.int .u64 (up : Nat)] 34)).alloc (.cells #[.bool true] 4) = W1 := ⟨_, rfl⟩
  have hal : Below w.heap.size w W1 := by rw [← hW]; exact balloc (balloc (balloc (balloc (Below.refl w.heap.size w) _) _) _) _
  have n3 : Blk W1 w.heap.size 27 #[.pointer (some ⟨g, 0, none⟩)] := by rw [← hW]; exact (((Blk.new w _ _).alloc _).alloc _).alloc _
  have n4 : Blk W1 (w.heap.size + 1) 27 #[.pointer (some ⟨g2, 0, none⟩)] := by rw [← hW]; exact ((Blk.newS w _ _ _).alloc _).alloc _
  have n5 : Blk W1 (w.heap.size + 1 + 1) 34 #[.int .u64 (up : Nat)] := by
    rw [← hW]
    have h := (Blk.newS (w.alloc (.cells #[.pointer (some ⟨g, 0, none⟩)] 27)) (.cells #[.pointer (some ⟨g2, 0, none⟩)] 27) 34 #[.int .u64 (up : Nat)]).alloc (.cells #[.bool true] 4)
    rwa [World.size_alloc] at h
  have n1 : Blk W1 (w.heap.size + 1 + 1 + 1) 4 #[.bool true] := by
    rw [← hW]
    have h := Blk.newS ((w.alloc (.cells #[.pointer (some ⟨g, 0, none⟩)] 27)).alloc (.cells #[.pointer (some ⟨g2, 0, none⟩)] 27)) (.cells #[.int .u64 (up : Nat)] 34) 4 #[.bool true]
    rwa [World.size_alloc, World.size_alloc] at h
  have l0 : ∀ w', Below W1.heap.size W1 w' → w'.cell? ⟨w.heap.size, 0, none⟩ = some (.pointer (some ⟨g, 0, none⟩)) := fun w' k => cell_of_row _ _ 0 _ _ _ (n3.keep k)
  have l1 : ∀ w', Below W1.heap.size W1 w' → w'.cell? ⟨g, 0, none⟩ = some (.map (some bv)) := fun w' k => cell_of_row _ _ 0 _ _ _ ((h1.1.keep hal).keep k)
  have l2 : ∀ w', Below W1.heap.size W1 w' → w'.cell? ⟨g, 1, none⟩ = some (.map (some bw)) := fun w' k => cell_of_row _ _ 1 _ _ _ ((h1.1.keep hal).keep k)
  have HS := Lib.hid (And.intro hal (And.intro n3 (And.intro n4 (And.intro n5 (And.intro n1 (And.intro (h1.keep hal) (h2.keep hal)))))))
  have HB := Lib.hid (And.intro h1.2.1.lt (And.intro h1.2.2.1.lt hup))
  have h0 : Below W1.heap.size W1 W1.drew := below_drew' (Below.refl _ _)
  have hr0 : Below W1.heap.size W1 W1 := Below.refl _ _
  have HW := Lib.hid hW
  clear h1 h2 hal n3 n4 n5 n1 hup hW
  refine (callsIn_wide (n := 20)).1 ?_
  refine callsIn_of_wp_marks Try.func36 rfl trivial ?_ rfl
  simp only [Try.ntmps36, List.size_toArray, List.length_cons, List.length_nil, Nat.reduceAdd, Nat.reduceSub, Array.replicate_succ, Array.replicate_zero, List.push_toArray, List.append_toArray, List.nil_append, List.cons_append]
  refine (wpIn_wide (n := 20)).2 ?_
  go_wp2_with fail
  refine wp_scope_straight ?_
  go_wp2_with fail
  refine wp_label ?_
  go_upto_region 2 with fail
  rw [HW.out]
  go_region_held3 (fun w' => Below W1.heap.size W1 w')
    (first | with_reducible assumption | with_reducible exact balloc (by assumption) _ | with_reducible exact below_drew' (by assumption) | with_reducible exact below_drew' (balloc (by assumption) _))
    (first
      | (go_at_call 45; refine (seach_any _ _ bv bw fv fw _ (by first | exact (cellTwo _ _ _ _).1 | exact (cellTwoD _ _ _ _).1) (by first | exact (cellTwo _ _ _ _).2 | exact (cellTwoD _ _ _ _).2) (HS.out.2.2.2.2.2.1.2.1.keep (by assumption)) (HS.out.2.2.2.2.2.1.2.2.1.keep (by assumption))).mono ?_; rintro e z ⟨A1, A2, gL, rfl, hE, hA1, hA2, hz⟩; have hH : Below W1.heap.size W1 z := bstep (by assumption) hz; have HE := Lib.hid (And.intro hE hH); clear hE hA1 hA2 hz)
      | fail)
  clear l0 l1 l2 h0 hr0
  (try clear hH)
  rename_i hHeld
  clear hHeld
  obtain ⟨hEz, hWz⟩ := HE.out
  have n3 := HS.out.2.1.keep hWz
  have n4 := HS.out.2.2.1.keep hWz
  have n5 := HS.out.2.2.2.1.keep hWz
  have n1 := HS.out.2.2.2.2.1.keep hWz
  have s1 := HS.out.2.2.2.2.2.1.keep hWz
  have s2 := HS.out.2.2.2.2.2.2.keep hWz
  have hbz := bstep HS.out.1 hWz
  have HZ := Lib.hid (And.intro hEz (And.intro n3 (And.intro n4 (And.intro n5 (And.intro n1 (And.intro s1 (And.intro s2 hbz)))))))
  have hg1 := n1.lt
  have hI0 : WiI (w.heap.size + 1 + 1 + 1) fv fw hv hw up z [] z := ⟨n1, Chg.refl _ _, by simp⟩
  obtain ⟨G1, hG1⟩ : ∃ G1, w.heap.size + 1 + 1 + 1 = G1 := ⟨_, rfl⟩
  have HG1 := Lib.hid hG1
  rw [hG1] at HZ hg1 hI0 ⊢
  have hbw := hbz.size
  have hbs := hbz
  clear HE hEz hWz n3 n4 n5 n1 s1 s2 hbz HS HW hG1
  go_wp2_with fail
  refine (wpIn_wide (n := 20)).1 ?_
  refine wpIn_rangeW (n := 20) (by omega) (gf := 52) (lb := #[.pointer (some ⟨A1, 0, none⟩), .pointer (some ⟨A2, 0, none⟩)]) rfl enters_each
    (each_seq2 (20 - 1) (by omega) A1 A2 W1.heap.size 2 gL bv bw w.heap.size fv fw HB.out.1 HB.out.2.1 z) (Below.refl _ _) hbw (fun _ => rfl)
    (WiI G1 fv fw hv hw up z) (WiX G1 fv fw hv hw up z) (WiI.stay hg1) (fun c => WiX.stay hg1 c)
    (fun pre X h => HZ.out.1.chg h.2.1 HZ.out.2.2.2.2.1 (fun _ e => by cases e) (fun _ _ _ e => by cases e) (fun _ _ _ e => by cases e)) hI0
    (fun x a' X => ∃ B8 B9, Blk X B8 25 (Wc x) ∧ Blk X B9 36 (vA (lk2 fv fw x).1 (lk2 fv fw x).2) ∧ a' = { tmps := #[.pointer (some ⟨g, 0, none⟩), .pointer (some ⟨g2, 0, none⟩), .int .u64 (up : Nat), .pointer (some ⟨w.heap.size, 0, none⟩), .pointer (some ⟨w.heap.size + 1, 0, none⟩), .pointer (some ⟨w.heap.size + 1 + 1, 0, none⟩), .bool false, .pointer (some ⟨G1, 0, none⟩), .pointer (some ⟨B8, 0, none⟩), .pointer (some ⟨B9, 0, none⟩), .pointer (some ⟨g, 0, none⟩), .pointer (some ⟨g, 0, none⟩), .pointer (some ⟨g, 0, none⟩), .map (some bv), .pointer (some ⟨g, 0, none⟩), .pointer (some ⟨g, 0, none⟩), .pointer (some ⟨g, 1, none⟩), .map (some bw), .slice (some ⟨W1.heap.size, 0, none⟩) 2 2, .func (.func 52) #[] #[.pointer (some ⟨A1, 0, none⟩), .pointer (some ⟨A2, 0, none⟩)], W x, vP (lk2 fv fw x), undef, undef, undef, undef, undef, undef, undef, undef, undef, undef, undef, undef, undef, undef, undef, undef, undef, undef, undef], defers := [] })
    (fun x a' _ X Y row hs hg hr => by obtain ⟨B8, B9, q1, q2, q3⟩ := hs; exact ⟨B8, B9, sblk_cells q1 hg (fun r e => (hr r e).2), sblk_cells q2 hg (fun r e => (hr r e).2), q3⟩)
    ?assign ?body ?done ?stop
  case assign =>
    rintro l2 pre x X K _ hi hK
    gi_wp2_with fail
    have hXs : w.heap.size ≤ X.heap.size := Nat.le_trans hbw hi.2.1.size
    exact hK _ _ ((Kept.alloc _ _ _).trans (Kept.alloc _ _ _)) (((Below.refl w.heap.size X).alloc hXs _).alloc (by rw [World.size_alloc]; omega) _) ((WiI.stay hg1).alloc _ ((WiI.stay hg1).alloc _ hi)) ⟨X.heap.size, X.heap.size + 1, (Blk.new X _ _).alloc _, Blk.newS X _ _ _, rfl⟩
  case stop =>
    rintro D c pre X hD _ ⟨rfl, k1, k2, k3⟩ hK
    have cL : X.cell? ⟨G1, 0, none⟩ = some (.bool false) := cell_of_row X _ 0 _ _ _ k1
    have HX := Lib.hid (And.intro hK (And.intro k3 (hbs.trans ((k2.below (Nat.le_trans hbw (Nat.le_refl _)) (fun k hk e => by have := HG1.out; omega)).trans (below_put X (.deferred none) (show w.heap.size ≤ D by omega))))))
    clear hK k1 k2 k3 hI0 hbs
    gi_wp2_with fail
    go_wp2_with fail
    refine ⟨by simp, .inl ⟨_, _, rfl, run_takeDeferred HX.out.1, ?_⟩⟩
    refine ⟨_, by simp [results, Try.results36, go_sem] <;> rfl, false, rfl, ⟨fun h => (by cases h), fun h => (by obtain ⟨x, q1, q2⟩ := HX.out.2.1; rw [h x q1] at q2; cases q2)⟩, HX.out.2.2⟩
  case done =>
    rintro D xs X hD hS ⟨k1, k2, k3⟩ hK
    have cL : X.cell? ⟨G1, 0, none⟩ = some (.bool true) := cell_of_row X _ 0 _ _ _ k1
    have HX := Lib.hid (And.intro hK (And.intro (fun x hx => k3 x (hS x hx)) (hbs.trans ((k2.below (Nat.le_trans hbw (Nat.le_refl _)) (fun k hk e => by have := HG1.out; omega)).trans (below_put X (.deferred none) (show w.heap.size ≤ D by omega))))))
    clear hK k1 k2 k3 hI0 hbs hS
    gi_wp2_with fail
    go_wp2_with fail
    refine ⟨by simp, .inl ⟨_, _, rfl, run_takeDeferred HX.out.1, ?_⟩⟩
    refine ⟨_, by simp [results, Try.results36, go_sem] <;> rfl, true, rfl, ⟨fun _ => HX.out.2.1, fun _ => rfl⟩, HX.out.2.2⟩
  case body =>
    rintro l2 pre x a' X hl2 ⟨hx, hhas⟩ hlo ⟨k1, k2, k3⟩ ⟨B8, B9, q1, q2, rfl⟩
    have m1 : B8 ≠ G1 := ne_of_cells q1 k1 (by simp)
    have m2 : B9 ≠ G1 := ne_of_cells q2 k1 (by simp)
    have m3 : w.heap.size ≠ G1 := by have := HG1.out; omega
    have m4 : w.heap.size + 1 ≠ G1 := by have := HG1.out; omega
    have m5 : w.heap.size + 1 + 1 ≠ G1 := by have := HG1.out; omega
    have p3 := HZ.out.2.1.chg k2 m3
    have p4 := HZ.out.2.2.1.chg k2 m4
    have p5 := HZ.out.2.2.2.1.chg k2 m5
    have e1 := HZ.out.2.2.2.2.2.1
    have e2 := HZ.out.2.2.2.2.2.2.1
    have eg := HZ.out.2.2.2.2.1
    have t1 := e1.chg k2 (ne_of_cells e1.1 eg (by simp)) (Ne.symm (blk_ne_map eg e1.2.1)) (Ne.symm (blk_ne_map eg e1.2.2.1))
    have t2 := e2.chg k2 (ne_of_cells e2.1 eg (by simp)) (Ne.symm (blk_ne_map eg e2.2.1)) (Ne.symm (blk_ne_map eg e2.2.2.1))
    have o1 := lk2_ok t1 x
    have o2 := lk2_ok t2 x
    have o3 := t1.2.2.1.okL x
    have o4 := t2.2.2.1.okL x
    have HG := Lib.hid (fun X' (k : SWi G1 X X') => get_any g2 cv cw many2 hv hw x hx X' (t2.chg k.1 (ne_of_cells t2.1 k1 (by simp)) (Ne.symm (blk_ne_map k1 t2.2.1)) (Ne.symm (blk_ne_map k1 t2.2.2.1))))
    have HWa := Lib.hid (fun X' (k : SWi G1 X X') => was_any g bv bw many fv fw x hx X' (t1.chg k.1 (ne_of_cells t1.1 k1 (by simp)) (Ne.symm (blk_ne_map k1 t1.2.1)) (Ne.symm (blk_ne_map k1 t1.2.2.1))))
    have HWb := Lib.hid (fun X' (k : SWi G1 X X') => was_any g2 cv cw many2 hv hw x hx X' (t2.chg k.1 (ne_of_cells t2.1 k1 (by simp)) (Ne.symm (blk_ne_map k1 t2.2.1)) (Ne.symm (blk_ne_map k1 t2.2.2.1))))
    have HS1 := Lib.hid (fun X' => same_any9 (lk2 fv fw x).1 (lk2 fv fw x).2 (lk2 hv hw x).1 (lk2 hv hw x).2 up o1.2 HB.out.2.2 o1.1 o2.1 X')
    have HS2 := Lib.hid (fun X' => same_any9 (lk fw x).1 (lk fw x).2 (lk hw x).1 (lk hw x).2 up o3.2 HB.out.2.2 o3.1 o4.1 X')
    have HKY := Lib.hid (show kyB fv fw hv hw up x = (smB (lk2 fv fw x).1 (lk2 fv fw x).2 (lk2 hv hw x).1 (lk2 hv hw x).2 up && smB (lk fw x).1 (lk fw x).2 (lk hw x).1 (lk hw x).2 up) from rfl)
    obtain ⟨y1, hy1⟩ : ∃ y, smB (lk2 fv fw x).1 (lk2 fv fw x).2 (lk2 hv hw x).1 (lk2 hv hw x).2 up = y := ⟨_, rfl⟩
    obtain ⟨y2, hy2⟩ : ∃ y, smB (lk fw x).1 (lk fw x).2 (lk hw x).1 (lk hw x).2 up = y := ⟨_, rfl⟩
    rw [hy1] at HS1 HKY
    rw [hy2] at HS2 HKY
    clear hy1 hy2
    have h0 : SWi G1 X X.drew := ⟨(Chg.refl _ X).drew, _, k1⟩
    have b80 : ∀ w', SWi G1 X w' → w'.cell? ⟨B8, 0, none⟩ = some (.int .u64 (lb x 0)) := fun w' k => cell_of_row _ _ 0 _ _ _ (q1.chg k.1 m1)
    have b81 : ∀ w', SWi G1 X w' → w'.cell? ⟨B8, 1, none⟩ = some (.int .u64 (lb x 1)) := fun w' k => cell_of_row _ _ 1 _ _ _ (q1.chg k.1 m1)
    have b82 : ∀ w', SWi G1 X w' → w'.cell? ⟨B8, 2, none⟩ = some (.int .u64 (lb x 2)) := fun w' k => cell_of_row _ _ 2 _ _ _ (q1.chg k.1 m1)
    have b83 : ∀ w', SWi G1 X w' → w'.cell? ⟨B8, 3, none⟩ = some (.int .u64 (lb x 3)) := fun w' k => cell_of_row _ _ 3 _ _ _ (q1.chg k.1 m1)
    have b90 : ∀ w', SWi G1 X w' → w'.cell? ⟨B9, 0, none⟩ = some (.int .u64 (lb (lk2 fv fw x).1 0)) := fun w' k => cell_of_row _ _ 0 _ _ _ (q2.chg k.1 m2)
    have b91 : ∀ w', SWi G1 X w' → w'.cell? ⟨B9, 1, none⟩ = some (.int .u64 (lb (lk2 fv fw x).1 1)) := fun w' k => cell_of_row _ _ 1 _ _ _ (q2.chg k.1 m2)
    have b92 : ∀ w', SWi G1 X w' → w'.cell? ⟨B9, 2, none⟩ = some (.int .u64 (lb (lk2 fv fw x).1 2)) := fun w' k => cell_of_row _ _ 2 _ _ _ (q2.chg k.1 m2)
    have b93 : ∀ w', SWi G1 X w' → w'.cell? ⟨B9, 3, none⟩ = some (.int .u64 (lb (lk2 fv fw x).1 3)) := fun w' k => cell_of_row _ _ 3 _ _ _ (q2.chg k.1 m2)
    have b94 : ∀ w', SWi G1 X w' → w'.cell? ⟨B9, 4, none⟩ = some (.int .u64 (((lk2 fv fw x).2 : Nat))) := fun w' k => cell_of_row _ _ 4 _ _ _ (q2.chg k.1 m2)
    have c3 : ∀ w', SWi G1 X w' → w'.cell? ⟨w.heap.size, 0, none⟩ = some (.pointer (some ⟨g, 0, none⟩)) := fun w' k => cell_of_row _ _ 0 _ _ _ (p3.chg k.1 m3)
    have c4 : ∀ w', SWi G1 X w' → w'.cell? ⟨w.heap.size + 1, 0, none⟩ = some (.pointer (some ⟨g2, 0, none⟩)) := fun w' k => cell_of_row _ _ 0 _ _ _ (p4.chg k.1 m4)
    have c5 : ∀ w', SWi G1 X w' → w'.cell? ⟨w.heap.size + 1 + 1, 0, none⟩ = some (.int .u64 (up : Nat)) := fun w' k => cell_of_row _ _ 0 _ _ _ (p5.chg k.1 m5)
    have c6 : ∀ w', SWi G1 X w' → w'.cell? ⟨G1, 0, none⟩ = some (cellV w' ⟨G1, 0, none⟩) := fun w' k => k.cell
    have c7 : ∀ w', SWi G1 X w' → w'.frozen? ⟨G1, 0, none⟩ = false := fun w' k => k.frozen
    have HX := Lib.hid (And.intro k2 (And.intro k3 (And.intro hhas hbs)))
    clear m1 m2 m3 m4 m5 p3 p4 p5 e1 e2 eg t1 t2 o1 o2 o3 o4 k1 k2 k3 q1 q2 hx hhas hlo hI0 hbs hl2
    have hbs : w.heap.size ≤ z.heap.size := hbw
    gi_wp2_with fail
    cases y1 with
    | true =>
      refine region_round_held l2 (S := SWi G1 X) (by kernel_rfl) (by kernel_rfl) h0 (fun hHeld => ?_)
      simp only [List.size_toArray, List.length_cons, List.length_nil, Nat.reduceAdd, Array.replicate_succ, Array.replicate_zero, List.push_toArray, List.nil_append, List.cons_append]
      refine wpAnyH_take (i := 0) (oi := { dst := some 22, op := Op.load 36 (Operand.tmp 9), type := 36, pos := "slot.go:123", after := #[], guard := none }) (v := ?vq0T) rfl (by as_aux_lemma => kernel_rfl) (by as_aux_lemma => kernel_rfl) (by as_aux_lemma => kernel_rfl) (fun _ _ _ h => h) (Or.inl ⟨by rfl, ?yq0T⟩) (by assumption) ?rq0T
      case yq0T => (intro w hSw; (try dsimp only at hSw); go_simp <;> with_reducible rfl)
      simp only [Act.put, List.setIfInBounds_toArray, List.set_cons_zero, List.set_cons_succ]
      refine wpAnyH_take (i := 1) (oi := { dst := some 23, op := Op.load 27 (Operand.tmp 4), type := 27, pos := "slot.go:123", after := #[], guard := none }) (v := ?vq1T) rfl (by as_aux_lemma => kernel_rfl) (by as_aux_lemma => kernel_rfl) (by as_aux_lemma => kernel_rfl) (fun _ _ _ h => h) (Or.inl ⟨by rfl, ?yq1T⟩) (by assumption) ?rq1T
      case yq1T => (intro w hSw; (try dsimp only at hSw); go_simp <;> with_reducible rfl)
      simp only [Act.put, List.setIfInBounds_toArray, List.set_cons_zero, List.set_cons_succ]
      refine wpAnyH_take (i := 2) (oi := { dst := some 24, op := Op.load 25 (Operand.tmp 8), type := 25, pos := "slot.go:123", after := #[], guard := none }) (v := ?vq2T) rfl (by as_aux_lemma => kernel_rfl) (by as_aux_lemma => kernel_rfl) (by as_aux_lemma => kernel_rfl) (fun _ _ _ h => h) (Or.inl ⟨by rfl, ?yq2T⟩) (by assumption) ?rq2T
      case yq2T => (intro w hSw; (try dsimp only at hSw); go_simp <;> with_reducible rfl)
      simp only [Act.put, List.setIfInBounds_toArray, List.set_cons_zero, List.set_cons_succ]
      refine wpAnyH_take (i := 4) (oi := { dst := some 26, op := Op.load 34 (Operand.tmp 5), type := 34, pos := "slot.go:123", after := #[], guard := none }) (v := ?vq3T) rfl (by as_aux_lemma => kernel_rfl) (by as_aux_lemma => kernel_rfl) (by as_aux_lemma => kernel_rfl) (fun _ _ _ h => h) (Or.inl ⟨by rfl, ?yq3T⟩) (by assumption) ?rq3T
      case yq3T => (intro w hSw; (try dsimp only at hSw); go_simp <;> with_reducible rfl)
      simp only [Act.put, List.setIfInBounds_toArray, List.set_cons_zero, List.set_cons_succ]
      refine wpAnyH_ready (rs := [3]) (by as_aux_lemma => kernel_rfl) (by simp) ?_
      refine AllReadyH.cons (o := { dst := some 25, op := Op.call { callee := Callee.value (Operand.func 10), args := #[Operand.tmp 23, Operand.tmp 24], argTypes := #[27, 25] }, type := 36, pos := "slot.go:123", after := #[{ on := 1, ground := Ground.data }, { on := 2, ground := Ground.data }], guard := none }) rfl (fun K hK => ?_) (by exact AllReadyH.nil)
      rw [if_pos (by rfl)]
      go_simp
      (go_at_call 10; refine (HG.out _ hHeld).mono ?_; rintro e zz ⟨rfl, hz⟩)
      refine hK.out _ _ (by (try dsimp only); (first | with_reducible exact SWi.set hHeld _ | with_reducible exact SWi.call hHeld hz)) (fun hHeld => ?_)
      clear hK K
      simp only [List.setIfInBounds_toArray, List.set_cons_zero, List.set_cons_succ]
      refine wpAnyH_ready (rs := [5]) (by as_aux_lemma => kernel_rfl) (by simp) ?_
      refine AllReadyH.cons (o := { dst := some 27, op := Op.call { callee := Callee.value (Operand.func 46), args := #[Operand.tmp 22, Operand.tmp 25, Operand.tmp 26], argTypes := #[36, 36, 34] }, type := 4, pos := "slot.go:123", after := #[{ on := 0, ground := Ground.data }, { on := 3, ground := Ground.data }, { on := 4, ground := Ground.data }, { on := 3, ground := Ground.chain }], guard := none }) rfl (fun K hK => ?_) (by exact AllReadyH.nil)
      rw [if_pos (by rfl)]
      go_simp
      (go_at_call 46; refine (HS1.out _).mono ?_; rintro e zz ⟨rfl, hz⟩)
      obtain ⟨vz, hbz⟩ := (SWi.call hHeld hz).2
      refine hK.out _ _ (by (try dsimp only); (first | with_reducible exact SWi.set hHeld _ | with_reducible exact SWi.call hHeld hz)) (fun hHeld => ?_)
      clear hK K
      simp only [List.setIfInBounds_toArray, List.set_cons_zero, List.set_cons_succ]
      refine wpAnyH_take (i := 6) (oi := { dst := some 28, op := Op.move (Operand.tmp 27), type := 4, pos := "slot.go:123", after := #[{ on := 5, ground := Ground.data }, { on := 5, ground := Ground.chain }], guard := none }) (v := ?vq6T) rfl (by as_aux_lemma => kernel_rfl) (by as_aux_lemma => kernel_rfl) (by as_aux_lemma => kernel_rfl) (fun _ _ _ h => h) (Or.inl ⟨by rfl, ?yq6T⟩) (by assumption) ?rq6T
      case yq6T => (intro w hSw; (try dsimp only at hSw); go_simp <;> with_reducible rfl)
      simp only [Act.put, List.setIfInBounds_toArray, List.set_cons_zero, List.set_cons_succ]
      refine wpAnyH_take (i := 7) (oi := { dst := some 29, op := Op.load 27 (Operand.tmp 3), type := 27, pos := "slot.go:123", after := #[{ on := 6, ground := Ground.guard }], guard := some (6, true) }) (v := ?vq7T) rfl (by as_aux_lemma => kernel_rfl) (by as_aux_lemma => kernel_rfl) (by as_aux_lemma => kernel_rfl) (fun _ _ _ h => h) (Or.inl ⟨by rfl, ?yq7T⟩) (by assumption) ?rq7T
      case yq7T => (intro w hSw; (try dsimp only at hSw); go_simp <;> with_reducible rfl)
      simp only [Act.put, List.setIfInBounds_toArray, List.set_cons_zero, List.set_cons_succ]
      refine wpAnyH_take (i := 8) (oi := { dst := some 30, op := Op.load 25 (Operand.tmp 8), type := 25, pos := "slot.go:123", after := #[{ on := 6, ground := Ground.guard }], guard := some (6, true) }) (v := ?vq8T) rfl (by as_aux_lemma => kernel_rfl) (by as_aux_lemma => kernel_rfl) (by as_aux_lemma => kernel_rfl) (fun _ _ _ h => h) (Or.inl ⟨by rfl, ?yq8T⟩) (by assumption) ?rq8T
      case yq8T => (intro w hSw; (try dsimp only at hSw); go_simp <;> with_reducible rfl)
      simp only [Act.put, List.setIfInBounds_toArray, List.set_cons_zero, List.set_cons_succ]
      refine wpAnyH_take (i := 10) (oi := { dst := some 32, op := Op.load 27 (Operand.tmp 4), type := 27, pos := "slot.go:123", after := #[{ on := 6, ground := Ground.guard }], guard := some (6, true) }) (v := ?vq9T) rfl (by as_aux_lemma => kernel_rfl) (by as_aux_lemma => kernel_rfl) (by as_aux_lemma => kernel_rfl) (fun _ _ _ h => h) (Or.inl ⟨by rfl, ?yq9T⟩) (by assumption) ?rq9T
      case yq9T => (intro w hSw; (try dsimp only at hSw); go_simp <;> with_reducible rfl)
      simp only [Act.put, List.setIfInBounds_toArray, List.set_cons_zero, List.set_cons_succ]
      refine wpAnyH_take (i := 11) (oi := { dst := some 33, op := Op.load 25 (Operand.tmp 8), type := 25, pos := "slot.go:123", after := #[{ on := 6, ground := Ground.guard }], guard := some (6, true) }) (v := ?vq10T) rfl (by as_aux_lemma => kernel_rfl) (by as_aux_lemma => kernel_rfl) (by as_aux_lemma => kernel_rfl) (fun _ _ _ h => h) (Or.inl ⟨by rfl, ?yq10T⟩) (by assumption) ?rq10T
      case yq10T => (intro w hSw; (try dsimp only at hSw); go_simp <;> with_reducible rfl)
      simp only [Act.put, List.setIfInBounds_toArray, List.set_cons_zero, List.set_cons_succ]
      refine wpAnyH_take (i := 13) (oi := { dst := some 35, op := Op.load 34 (Operand.tmp 5), type := 34, pos := "slot.go:123", after := #[{ on := 6, ground := Ground.guard }], guard := some (6, true) }) (v := ?vq11T) rfl (by as_aux_lemma => kernel_rfl) (by as_aux_lemma => kernel_rfl) (by as_aux_lemma => kernel_rfl) (fun _ _ _ h => h) (Or.inl ⟨by rfl, ?yq11T⟩) (by assumption) ?rq11T
      case yq11T => (intro w hSw; (try dsimp only at hSw); go_simp <;> with_reducible rfl)
      simp only [Act.put, List.setIfInBounds_toArray, List.set_cons_zero, List.set_cons_succ]
      refine wpAnyH_ready (rs := [9]) (by as_aux_lemma => kernel_rfl) (by simp) ?_
      refine AllReadyH.cons (o := { dst := some 31, op := Op.call { callee := Callee.value (Operand.func 12), args := #[Operand.tmp 29, Operand.tmp 30], argTypes := #[27, 25] }, type := 36, pos := "slot.go:123", after := #[{ on := 7, ground := Ground.data }, { on := 8, ground := Ground.data }, { on := 6, ground := Ground.chain }, { on := 6, ground := Ground.guard }], guard := some (6, true) }) rfl (fun K hK => ?_) (by exact AllReadyH.nil)
      rw [if_pos (by rfl)]
      go_simp
      (go_at_call 12; refine (HWa.out _ hHeld).mono ?_; rintro e zz ⟨rfl, hz⟩)
      refine hK.out _ _ (by (try dsimp only); (first | with_reducible exact SWi.set hHeld _ | with_reducible exact SWi.call hHeld hz)) (fun hHeld => ?_)
      clear hK K
      simp only [List.setIfInBounds_toArray, List.set_cons_zero, List.set_cons_succ]
      refine wpAnyH_ready (rs := [12]) (by as_aux_lemma => kernel_rfl) (by simp) ?_
      refine AllReadyH.cons (o := { dst := some 34, op := Op.call { callee := Callee.value (Operand.func 12), args := #[Operand.tmp 32, Operand.tmp 33], argTypes := #[27, 25] }, type := 36, pos := "slot.go:123", after := #[{ on := 10, ground := Ground.data }, { on := 11, ground := Ground.data }, { on := 9, ground := Ground.chain }, { on := 6, ground := Ground.guard }], guard := some (6, true) }) rfl (fun K hK => ?_) (by exact AllReadyH.nil)
      rw [if_pos (by rfl)]
      go_simp
      (go_at_call 12; refine (HWb.out _ hHeld).mono ?_; rintro e zz ⟨rfl, hz⟩)
      refine hK.out _ _ (by (try dsimp only); (first | with_reducible exact SWi.set hHeld _ | with_reducible exact SWi.call hHeld hz)) (fun hHeld => ?_)
      clear hK K
      simp only [List.setIfInBounds_toArray, List.set_cons_zero, List.set_cons_succ]
      refine wpAnyH_ready (rs := [14]) (by as_aux_lemma => kernel_rfl) (by simp) ?_
      refine AllReadyH.cons (o := { dst := some 36, op := Op.call { callee := Callee.value (Operand.func 46), args := #[Operand.tmp 31, Operand.tmp 34, Operand.tmp 35], argTypes := #[36, 36, 34] }, type := 4, pos := "slot.go:123", after := #[{ on := 9, ground := Ground.data }, { on := 12, ground := Ground.data }, { on := 13, ground := Ground.data }, { on := 12, ground := Ground.chain }, { on := 6, ground := Ground.guard }], guard := some (6, true) }) rfl (fun K hK => ?_) (by exact AllReadyH.nil)
      rw [if_pos (by rfl)]
      go_simp
      (go_at_call 46; refine (HS2.out _).mono ?_; rintro e zz ⟨rfl, hz⟩)
      obtain ⟨vz, hbz⟩ := (SWi.call hHeld hz).2
      refine hK.out _ _ (by (try dsimp only); (first | with_reducible exact SWi.set hHeld _ | with_reducible exact SWi.call hHeld hz)) (fun hHeld => ?_)
      clear hK K
      simp only [List.setIfInBounds_toArray, List.set_cons_zero, List.set_cons_succ]
      refine wpAnyH_take (i := 15) (oi := { dst := some 37, op := Op.pick (Operand.tmp 28) (Operand.tmp 36) (Operand.const (Value.bool false)), type := 4, pos := "slot.go:123", after := #[{ on := 6, ground := Ground.data }, { on := 14, ground := Ground.data }], guard := none }) (v := ?vq15T) rfl (by as_aux_lemma => kernel_rfl) (by as_aux_lemma => kernel_rfl) (by as_aux_lemma => kernel_rfl) (fun _ _ _ h => h) (Or.inl ⟨by rfl, ?yq15T⟩) (by assumption) ?rq15T
      case yq15T => (intro w hSw; (try dsimp only at hSw); go_simp <;> with_reducible rfl)
      simp only [Act.put, List.setIfInBounds_toArray, List.set_cons_zero, List.set_cons_succ]
      refine wpAnyH_ready (rs := [16]) (by as_aux_lemma => kernel_rfl) (by simp) ?_
      refine AllReadyH.cons (o := { dst := none, op := Op.store 4 (Operand.tmp 7) (Operand.tmp 37), type := 0, pos := "slot.go:123", after := #[{ on := 15, ground := Ground.data }, { on := 14, ground := Ground.chain }, { on := 0, ground := Ground.phase }, { on := 1, ground := Ground.phase }, { on := 2, ground := Ground.phase }, { on := 3, ground := Ground.phase }, { on := 4, ground := Ground.phase }, { on := 5, ground := Ground.phase }, { on := 6, ground := Ground.phase }, { on := 7, ground := Ground.phase }, { on := 8, ground := Ground.phase }, { on := 9, ground := Ground.phase }, { on := 10, ground := Ground.phase }, { on := 11, ground := Ground.phase }, { on := 12, ground := Ground.phase }, { on := 13, ground := Ground.phase }, { on := 14, ground := Ground.phase }, { on := 15, ground := Ground.phase }], guard := none }) rfl (fun K hK => ?_) (by exact AllReadyH.nil)
      rw [if_pos (by rfl)]
      go_simp
      refine hK.out _ _ (by (try dsimp only); (first | with_reducible exact SWi.set hHeld _ | with_reducible exact SWi.call hHeld hz)) (fun hHeld => ?_)
      clear hK K
      simp only [List.setIfInBounds_toArray, List.set_cons_zero, List.set_cons_succ]
      refine wpAnyH_done (by as_aux_lemma => kernel_rfl) ?_ _
      obtain ⟨WW, hWW⟩ : ∃ WW, zz.setCell ⟨G1, 0, none⟩ (.bool y2) = WW := ⟨_, rfl⟩
      rw [hWW] at hHeld ⊢
      have hb2 : Blk WW G1 4 #[.bool y2] := by rw [← hWW]; exact heap_setCell_same zz G1 0 _ _ _ hbz
      have cW := cell_of_row _ _ 0 _ _ _ hb2
      have HF := Lib.hid (And.intro hHeld.1 hb2)
      simp only [onlyN]
      clear hHeld hWW hb2 hbz hz
      clear b80 b81 b82 b83 b90 b91 b92 b93 b94 c3 c4 c5 c6 c7 h0
      cases y2 with
      | true =>
        gi_wp2_with fail
        exact ⟨⟨HF.out.1.size, fun i hB hi => HF.out.1.block i hi (by omega)⟩, HF.out.1.below (Nat.le_trans hbs HX.out.1.size) (fun k hk e => by have := HG1.out; omega), HF.out.2, HX.out.1.trans HF.out.1 (fun _ _ e => e), fun j hj => by
          rcases List.mem_append.1 hj with h | h
          · exact HX.out.2.1 j h
          · simp at h; subst h; exact HKY.out⟩
      | false =>
        gi_wp2_with fail
        exact ⟨⟨HF.out.1.size, fun i hB hi => HF.out.1.block i hi (by omega)⟩, rfl, HF.out.2, HX.out.1.trans HF.out.1 (fun _ _ e => e), x, HX.out.2.2.1, HKY.out⟩
    | false =>
      refine region_round_held l2 (S := SWi G1 X) (by kernel_rfl) (by kernel_rfl) h0 (fun hHeld => ?_)
      simp only [List.size_toArray, List.length_cons, List.length_nil, Nat.reduceAdd, Array.replicate_succ, Array.replicate_zero, List.push_toArray, List.nil_append, List.cons_append]
      refine wpAnyH_take (i := 0) (oi := { dst := some 22, op := Op.load 36 (Operand.tmp 9), type := 36, pos := "slot.go:123", after := #[], guard := none }) (v := ?vq0F) rfl (by as_aux_lemma => kernel_rfl) (by as_aux_lemma => kernel_rfl) (by as_aux_lemma => kernel_rfl) (fun _ _ _ h => h) (Or.inl ⟨by rfl, ?yq0F⟩) (by assumption) ?rq0F
      case yq0F => (intro w hSw; (try dsimp only at hSw); go_simp <;> with_reducible rfl)
      simp only [Act.put, List.setIfInBounds_toArray, List.set_cons_zero, List.set_cons_succ]
      refine wpAnyH_take (i := 1) (oi := { dst := some 23, op := Op.load 27 (Operand.tmp 4), type := 27, pos := "slot.go:123", after := #[], guard := none }) (v := ?vq1F) rfl (by as_aux_lemma => kernel_rfl) (by as_aux_lemma => kernel_rfl) (by as_aux_lemma => kernel_rfl) (fun _ _ _ h => h) (Or.inl ⟨by rfl, ?yq1F⟩) (by assumption) ?rq1F
      case yq1F => (intro w hSw; (try dsimp only at hSw); go_simp <;> with_reducible rfl)
      simp only [Act.put, List.setIfInBounds_toArray, List.set_cons_zero, List.set_cons_succ]
      refine wpAnyH_take (i := 2) (oi := { dst := some 24, op := Op.load 25 (Operand.tmp 8), type := 25, pos := "slot.go:123", after := #[], guard := none }) (v := ?vq2F) rfl (by as_aux_lemma => kernel_rfl) (by as_aux_lemma => kernel_rfl) (by as_aux_lemma => kernel_rfl) (fun _ _ _ h => h) (Or.inl ⟨by rfl, ?yq2F⟩) (by assumption) ?rq2F
      case yq2F => (intro w hSw; (try dsimp only at hSw); go_simp <;> with_reducible rfl)
      simp only [Act.put, List.setIfInBounds_toArray, List.set_cons_zero, List.set_cons_succ]
      refine wpAnyH_take (i := 4) (oi := { dst := some 26, op := Op.load 34 (Operand.tmp 5), type := 34, pos := "slot.go:123", after := #[], guard := none }) (v := ?vq3F) rfl (by as_aux_lemma => kernel_rfl) (by as_aux_lemma => kernel_rfl) (by as_aux_lemma => kernel_rfl) (fun _ _ _ h => h) (Or.inl ⟨by rfl, ?yq3F⟩) (by assumption) ?rq3F
      case yq3F => (intro w hSw; (try dsimp only at hSw); go_simp <;> with_reducible rfl)
      simp only [Act.put, List.setIfInBounds_toArray, List.set_cons_zero, List.set_cons_succ]
      refine wpAnyH_ready (rs := [3]) (by as_aux_lemma => kernel_rfl) (by simp) ?_
      refine AllReadyH.cons (o := { dst := some 25, op := Op.call { callee := Callee.value (Operand.func 10), args := #[Operand.tmp 23, Operand.tmp 24], argTypes := #[27, 25] }, type := 36, pos := "slot.go:123", after := #[{ on := 1, ground := Ground.data }, { on := 2, ground := Ground.data }], guard := none }) rfl (fun K hK => ?_) (by exact AllReadyH.nil)
      rw [if_pos (by rfl)]
      go_simp
      (go_at_call 10; refine (HG.out _ hHeld).mono ?_; rintro e zz ⟨rfl, hz⟩)
      refine hK.out _ _ (by (try dsimp only); (first | with_reducible exact SWi.set hHeld _ | with_reducible exact SWi.call hHeld hz)) (fun hHeld => ?_)
      clear hK K
      simp only [List.setIfInBounds_toArray, List.set_cons_zero, List.set_cons_succ]
      refine wpAnyH_ready (rs := [5]) (by as_aux_lemma => kernel_rfl) (by simp) ?_
      refine AllReadyH.cons (o := { dst := some 27, op := Op.call { callee := Callee.value (Operand.func 46), args := #[Operand.tmp 22, Operand.tmp 25, Operand.tmp 26], argTypes := #[36, 36, 34] }, type := 4, pos := "slot.go:123", after := #[{ on := 0, ground := Ground.data }, { on := 3, ground := Ground.data }, { on := 4, ground := Ground.data }, { on := 3, ground := Ground.chain }], guard := none }) rfl (fun K hK => ?_) (by exact AllReadyH.nil)
      rw [if_pos (by rfl)]
      go_simp
      (go_at_call 46; refine (HS1.out _).mono ?_; rintro e zz ⟨rfl, hz⟩)
      obtain ⟨vz, hbz⟩ := (SWi.call hHeld hz).2
      refine hK.out _ _ (by (try dsimp only); (first | with_reducible exact SWi.set hHeld _ | with_reducible exact SWi.call hHeld hz)) (fun hHeld => ?_)
      clear hK K
      simp only [List.setIfInBounds_toArray, List.set_cons_zero, List.set_cons_succ]
      refine wpAnyH_take (i := 6) (oi := { dst := some 28, op := Op.move (Operand.tmp 27), type := 4, pos := "slot.go:123", after := #[{ on := 5, ground := Ground.data }, { on := 5, ground := Ground.chain }], guard := none }) (v := ?vq6F) rfl (by as_aux_lemma => kernel_rfl) (by as_aux_lemma => kernel_rfl) (by as_aux_lemma => kernel_rfl) (fun _ _ _ h => h) (Or.inl ⟨by rfl, ?yq6F⟩) (by assumption) ?rq6F
      case yq6F => (intro w hSw; (try dsimp only at hSw); go_simp <;> with_reducible rfl)
      simp only [Act.put, List.setIfInBounds_toArray, List.set_cons_zero, List.set_cons_succ]
      refine wpAnyH_take (i := 7) (oi := { dst := some 29, op := Op.load 27 (Operand.tmp 3), type := 27, pos := "slot.go:123", after := #[{ on := 6, ground := Ground.guard }], guard := some (6, true) }) (v := undef) rfl (by as_aux_lemma => kernel_rfl) (by as_aux_lemma => kernel_rfl) (by as_aux_lemma => kernel_rfl) (fun _ _ _ h => h) (Or.inr ⟨by rfl, rfl⟩) (by assumption) ?_
      simp only [Act.put, List.setIfInBounds_toArray, List.set_cons_zero, List.set_cons_succ]
      refine wpAnyH_take (i := 8) (oi := { dst := some 30, op := Op.load 25 (Operand.tmp 8), type := 25, pos := "slot.go:123", after := #[{ on := 6, ground := Ground.guard }], guard := some (6, true) }) (v := undef) rfl (by as_aux_lemma => kernel_rfl) (by as_aux_lemma => kernel_rfl) (by as_aux_lemma => kernel_rfl) (fun _ _ _ h => h) (Or.inr ⟨by rfl, rfl⟩) (by assumption) ?_
      simp only [Act.put, List.setIfInBounds_toArray, List.set_cons_zero, List.set_cons_succ]
      refine wpAnyH_take (i := 9) (oi := { dst := some 31, op := Op.call { callee := Callee.value (Operand.func 12), args := #[Operand.tmp 29, Operand.tmp 30], argTypes := #[27, 25] }, type := 36, pos := "slot.go:123", after := #[{ on := 7, ground := Ground.data }, { on := 8, ground := Ground.data }, { on := 6, ground := Ground.chain }, { on := 6, ground := Ground.guard }], guard := some (6, true) }) (v := undef) rfl (by as_aux_lemma => kernel_rfl) (by as_aux_lemma => kernel_rfl) (by as_aux_lemma => kernel_rfl) (fun _ _ _ h => h) (Or.inr ⟨by rfl, rfl⟩) (by assumption) ?_
      simp only [Act.put, List.setIfInBounds_toArray, List.set_cons_zero, List.set_cons_succ]
      refine wpAnyH_take (i := 10) (oi := { dst := some 32, op := Op.load 27 (Operand.tmp 4), type := 27, pos := "slot.go:123", after := #[{ on := 6, ground := Ground.guard }], guard := some (6, true) }) (v := undef) rfl (by as_aux_lemma => kernel_rfl) (by as_aux_lemma => kernel_rfl) (by as_aux_lemma => kernel_rfl) (fun _ _ _ h => h) (Or.inr ⟨by rfl, rfl⟩) (by assumption) ?_
      simp only [Act.put, List.setIfInBounds_toArray, List.set_cons_zero, List.set_cons_succ]
      refine wpAnyH_take (i := 11) (oi := { dst := some 33, op := Op.load 25 (Operand.tmp 8), type := 25, pos := "slot.go:123", after := #[{ on := 6, ground := Ground.guard }], guard := some (6, true) }) (v := undef) rfl (by as_aux_lemma => kernel_rfl) (by as_aux_lemma => kernel_rfl) (by as_aux_lemma => kernel_rfl) (fun _ _ _ h => h) (Or.inr ⟨by rfl, rfl⟩) (by assumption) ?_
      simp only [Act.put, List.setIfInBounds_toArray, List.set_cons_zero, List.set_cons_succ]
      refine wpAnyH_take (i := 12) (oi := { dst := some 34, op := Op.call { callee := Callee.value (Operand.func 12), args := #[Operand.tmp 32, Operand.tmp 33], argTypes := #[27, 25] }, type := 36, pos := "slot.go:123", after := #[{ on := 10, ground := Ground.data }, { on := 11, ground := Ground.data }, { on := 9, ground := Ground.chain }, { on := 6, ground := Ground.guard }], guard := some (6, true) }) (v := undef) rfl (by as_aux_lemma => kernel_rfl) (by as_aux_lemma => kernel_rfl) (by as_aux_lemma => kernel_rfl) (fun _ _ _ h => h) (Or.inr ⟨by rfl, rfl⟩) (by assumption) ?_
      simp only [Act.put, List.setIfInBounds_toArray, List.set_cons_zero, List.set_cons_succ]
      refine wpAnyH_take (i := 13) (oi := { dst := some 35, op := Op.load 34 (Operand.tmp 5), type := 34, pos := "slot.go:123", after := #[{ on := 6, ground := Ground.guard }], guard := some (6, true) }) (v := undef) rfl (by as_aux_lemma => kernel_rfl) (by as_aux_lemma => kernel_rfl) (by as_aux_lemma => kernel_rfl) (fun _ _ _ h => h) (Or.inr ⟨by rfl, rfl⟩) (by assumption) ?_
      simp only [Act.put, List.setIfInBounds_toArray, List.set_cons_zero, List.set_cons_succ]
      refine wpAnyH_take (i := 14) (oi := { dst := some 36, op := Op.call { callee := Callee.value (Operand.func 46), args := #[Operand.tmp 31, Operand.tmp 34, Operand.tmp 35], argTypes := #[36, 36, 34] }, type := 4, pos := "slot.go:123", after := #[{ on := 9, ground := Ground.data }, { on := 12, ground := Ground.data }, { on := 13, ground := Ground.data }, { on := 12, ground := Ground.chain }, { on := 6, ground := Ground.guard }], guard := some (6, true) }) (v := undef) rfl (by as_aux_lemma => kernel_rfl) (by as_aux_lemma => kernel_rfl) (by as_aux_lemma => kernel_rfl) (fun _ _ _ h => h) (Or.inr ⟨by rfl, rfl⟩) (by assumption) ?_
      simp only [Act.put, List.setIfInBounds_toArray, List.set_cons_zero, List.set_cons_succ]
      refine wpAnyH_take (i := 15) (oi := { dst := some 37, op := Op.pick (Operand.tmp 28) (Operand.tmp 36) (Operand.const (Value.bool false)), type := 4, pos := "slot.go:123", after := #[{ on := 6, ground := Ground.data }, { on := 14, ground := Ground.data }], guard := none }) (v := ?vq15F) rfl (by as_aux_lemma => kernel_rfl) (by as_aux_lemma => kernel_rfl) (by as_aux_lemma => kernel_rfl) (fun _ _ _ h => h) (Or.inl ⟨by rfl, ?yq15F⟩) (by assumption) ?rq15F
      case yq15F => (intro w hSw; (try dsimp only at hSw); go_simp <;> with_reducible rfl)
      simp only [Act.put, List.setIfInBounds_toArray, List.set_cons_zero, List.set_cons_succ]
      refine wpAnyH_ready (rs := [16]) (by as_aux_lemma => kernel_rfl) (by simp) ?_
      refine AllReadyH.cons (o := { dst := none, op := Op.store 4 (Operand.tmp 7) (Operand.tmp 37), type := 0, pos := "slot.go:123", after := #[{ on := 15, ground := Ground.data }, { on := 14, ground := Ground.chain }, { on := 0, ground := Ground.phase }, { on := 1, ground := Ground.phase }, { on := 2, ground := Ground.phase }, { on := 3, ground := Ground.phase }, { on := 4, ground := Ground.phase }, { on := 5, ground := Ground.phase }, { on := 6, ground := Ground.phase }, { on := 7, ground := Ground.phase }, { on := 8, ground := Ground.phase }, { on := 9, ground := Ground.phase }, { on := 10, ground := Ground.phase }, { on := 11, ground := Ground.phase }, { on := 12, ground := Ground.phase }, { on := 13, ground := Ground.phase }, { on := 14, ground := Ground.phase }, { on := 15, ground := Ground.phase }], guard := none }) rfl (fun K hK => ?_) (by exact AllReadyH.nil)
      rw [if_pos (by rfl)]
      go_simp
      refine hK.out _ _ (by (try dsimp only); (first | with_reducible exact SWi.set hHeld _ | with_reducible exact SWi.call hHeld hz)) (fun hHeld => ?_)
      clear hK K
      simp only [List.setIfInBounds_toArray, List.set_cons_zero, List.set_cons_succ]
      refine wpAnyH_done (by as_aux_lemma => kernel_rfl) ?_ _
      obtain ⟨WW, hWW⟩ : ∃ WW, zz.setCell ⟨G1, 0, none⟩ (.bool false) = WW := ⟨_, rfl⟩
      rw [hWW] at hHeld ⊢
      have hb2 : Blk WW G1 4 #[.bool false] := by rw [← hWW]; exact heap_setCell_same zz G1 0 _ _ _ hbz
      have cW := cell_of_row _ _ 0 _ _ _ hb2
      have HF := Lib.hid (And.intro hHeld.1 hb2)
      simp only [onlyN]
      clear hHeld hWW hb2 hbz hz
      clear b80 b81 b82 b83 b90 b91 b92 b93 b94 c3 c4 c5 c6 c7 h0
      gi_wp2_with fail
      exact ⟨⟨HF.out.1.size, fun i hB hi => HF.out.1.block i hi (by omega)⟩, rfl, HF.out.2, HX.out.1.trans HF.out.1 (fun _ _ e => e), x, HX.out.2.2.1, HKY.out⟩

end Go.Proofs.Ytcfnhilcpfiocaa
