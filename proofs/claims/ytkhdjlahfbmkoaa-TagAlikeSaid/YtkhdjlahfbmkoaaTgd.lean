/- tag: cut, from, Of, Bytes, Label, Join, Part, Cells. -/
import Derived.Test.YtkhdjlahfbmkoaaTgc
import Derived.Lib.MinMax
namespace Go.Proofs.Ytkhdjlahfbmkoaa
open Go.RowKit Go.Shelf

theorem cut_from9 (x : Option Addr) (m n c : Nat) (hk : n ≤ m) (w : World) : (Instr.slice 71 (.slice x m c) (some (.int .i64 (n : Nat))) none none).run Try.prog w = .ok (.slice (if c = n then x else x.map (·.add (n * 2))) (m - n) (c - n)) w := by
  have h := run_slice_l (P := Try.prog) (w := w) (t := 71) (a := x) (len := m) (cap := c) (ht := by kernel_rfl) .i64 (n : Int) (by omega) (by omega)
  rw [h, show Try.prog.elem 71 = 53 by kernel_rfl, show (sizeOf 53).run Try.prog w = .ok 2 w by kernel_rfl]
  simp only [Result.andThen_ok, sliced, Int.toNat_natCast]
theorem cut_to9 (x : Option Addr) (m n c : Nat) (hn : n ≤ c) (w : World) : (Instr.slice 71 (.slice x m c) none (some (.int .i64 (n : Nat))) (some (.int .i64 (n : Nat)))).run Try.prog w = .ok (.slice x n n) w := by
  have h := run_slice_hm (P := Try.prog) (w := w) (t := 71) (a := x) (len := m) (cap := c) (ht := by kernel_rfl) .i64 .i64 (n : Int) (n : Int) (by omega) (by omega) (by omega)
  rw [h, show Try.prog.elem 71 = 53 by kernel_rfl, show (sizeOf 53).run Try.prog w = .ok 2 w by kernel_rfl]
  simp only [Result.andThen_ok, sliced, Int.toNat_natCast, Nat.sub_zero]
  have he : (if n = 0 then x else x.map (·.add (0 * 2))) = x := by
    split
    · rfl
    · cases x with
      | none => rfl
      | some a => simp [Addr.add]
  rw [he]
theorem Cs.cut {B : Nat} {X : World} {x : Option Addr} {c : Nat} {l : List (Nat × Nat)} (h : Cs B X (.slice x l.length c) l) (at_ many K E : Nat) (hK : K = min at_ l.length) (hE : E = min many (l.length - K)) : Cs B X (.slice (if c = K then x else x.map (·.add (K * 2))) E E) ((l.drop at_).take many) := by
  obtain ⟨h1, x', cap, h2, h3, h4, h5⟩ := h
  injection h2 with e1 e2 e3
  subst e1 e3
  have hl : ((l.drop at_).take many).length = E := by rw [List.length_take, List.length_drop]; omega
  refine ⟨fun a ha => h1 a (List.mem_of_mem_drop (List.mem_of_mem_take ha)), _, _, by rw [hl], by omega, by omega, fun hne => ?_⟩
  have hE0 : 0 < E := by rw [← hl]; exact List.length_pos_iff.2 hne
  obtain ⟨b, o, e, hb, hbx, hc⟩ := h5 (by intro e; rw [e] at hK; simp at hK; subst hK; rw [e] at hE; simp at hE; omega)
  subst e
  refine ⟨b, o + K * 2, by rw [if_neg (by omega), Option.map_some, Go.WideShapes.add_plain], hb, hbx, fun k a ha => ?_⟩
  have hka : k < E := by
    by_cases h : k < E
    · exact h
    · rw [List.getElem?_eq_none (by omega)] at ha; cases ha
  have ha2 : l[K + k]? = some a := by
    rw [List.getElem?_take_of_lt (by omega), List.getElem?_drop] at ha
    rwa [show K = at_ by omega]
  have := hc _ _ ha2
  rwa [show o + (K + k) * 2 = o + K * 2 + k * 2 by omega] at this
set_option maxRecDepth 100000 in
set_option maxHeartbeats 1000000 in
theorem tcut_any (B at_ many : Nat) (v : Value) (l : List (Nat × Nat)) (w : World) (hv : Cs B w v l) :
    Calls Try.prog 54 #[v, .int .i64 at_, .int .i64 many] w fun e w' => (∃ x E, e = .returned (.slice x E E) ∧ Cs B w (.slice x E E) ((l.drop at_).take many)) ∧ w = w' := by
  obtain ⟨x, c, rfl⟩ := hv.is
  obtain ⟨K, hK⟩ : ∃ K, K = min at_ l.length := ⟨_, rfl⟩
  obtain ⟨E, hE⟩ : ∃ E, E = min many (l.length - K) := ⟨_, rfl⟩
  have HV := Lib.hid (hv.cut at_ many K E hK hE)
  have hc : l.length ≤ c := by obtain ⟨_, _, _, h2, h3, _⟩ := hv; injection h2 with _ _ e3; omega
  have g1 : min (at_ : Int) (l.length : Int) = (K : Int) := by omega
  obtain ⟨m, hm⟩ : ∃ m, l.length - K = m := ⟨_, rfl⟩
  have s1 := cut_from9 x l.length K c (by omega)
  rw [hm] at s1
  have g2 : min (many : Int) (m : Int) = (E : Int) := by omega
  obtain ⟨y, hy⟩ : ∃ y, (if c = K then x else x.map (·.add (K * 2))) = y := ⟨_, rfl⟩
  rw [hy] at s1 HV
  obtain ⟨c2, hc2⟩ : ∃ c2, c - K = c2 := ⟨_, rfl⟩
  rw [hc2] at s1
  have s2 := cut_to9 y m E c2 (by omega)
  clear hv hK hE hm hy hc2 hc
  go_enter Try.func54, Try.ntmps54
  go_wp2_with fail
  go_ret
  exact ⟨⟨_, _, rfl, HV.out⟩, rfl⟩
/-- So many cells from a place on. -/
def paL (l : List (Nat × Nat)) (at_ many : Nat) : List (Nat × Nat) := (List.range many).map fun i => cg l (at_ + i)
theorem paL_len (l : List (Nat × Nat)) (at_ many : Nat) : (paL l at_ many).length = many := by unfold paL; simp
theorem paL_get (l : List (Nat × Nat)) (at_ many k : Nat) (hk : k < many) : (paL l at_ many)[k]? = some (cg l (at_ + k)) := by unfold paL; simp [hk]
theorem paL_cg (l : List (Nat × Nat)) (at_ many k : Nat) (hk : k < many) : cg (paL l at_ many) k = cg l (at_ + k) := by unfold cg; rw [paL_get l at_ many k hk]; rfl
theorem paL_ok {l : List (Nat × Nat)} (h : ∀ a ∈ l, okC a) (at_ many : Nat) : ∀ a ∈ paL l at_ many, okC a := fun a ha => by
  unfold paL at ha
  obtain ⟨i, _, rfl⟩ := List.mem_map.1 ha
  exact cg_ok h _
theorem cg_cut (l : List (Nat × Nat)) (at_ many k : Nat) (hk : k < many) : cg ((l.drop at_).take many) k = cg l (at_ + k) := by
  unfold cg; rw [List.getElem?_take_of_lt hk, List.getElem?_drop]
theorem paL_cut (l : List (Nat × Nat)) (at_ many : Nat) : ((List.range many).map fun i => cg ((l.drop at_).take many) i) = paL l at_ many := by
  unfold paL
  exact List.map_congr_left fun i hi => cg_cut l at_ many i (List.mem_range.1 hi)
set_option maxRecDepth 100000 in
set_option maxHeartbeats 1000000 in
theorem from_side (B at_ many : Nat) (l : List (Nat × Nat)) (w : World) (hB : B ≤ w.heap.size) (o1 : Obj) (y : Option Addr) (E : Nat) (h : Cs B (w.alloc o1) (.slice y E E) ((l.drop at_).take many)) :
    ∀ k, k < many → ∀ Y, Below (w.alloc (.cells #[.slice y E E, .int .i64 many] 73)).heap.size (w.alloc (.cells #[.slice y E E, .int .i64 many] 73)) Y → Calls Try.prog 55 #[.int .i64 k, .pointer (some ⟨w.heap.size, 0, none⟩)] Y fun e Y' => e = .returned (cV (cg ((l.drop at_).take many) k).1 (cg ((l.drop at_).take many) k).2) ∧ Below Y.heap.size Y Y' := by
  intro k hk Y hY
  have h2 : Cs B (w.alloc (.cells #[.slice y E E, .int .i64 many] 73)) (.slice y E E) ((l.drop at_).take many) := h.kept (by simp) fun b hb _ => by
    have hb' : b < w.heap.size := by omega
    have e1 := (balloc (Below.refl w.heap.size w) o1).block b hb'
    have e2 := (balloc (Below.refl w.heap.size w) (.cells #[.slice y E E, .int .i64 many] 73)).block b hb'
    rw [e1, e2]
  have hN := (Blk.new w 73 #[.slice y E E, .int .i64 many]).keep hY
  exact from1_any B k w.heap.size _ _ Y (h2.new hY) (cell_of_row _ _ 0 _ _ _ hN)
set_option maxRecDepth 100000 in
set_option maxHeartbeats 1000000 in
theorem from_any (B at_ many : Nat) (hm : many ≤ 1000000) (v : Value) (l : List (Nat × Nat)) (w : World) (hB : B ≤ w.heap.size) (hv : Cs B w v l) :
    Calls Try.prog 43 #[.agg #[v, .int .i64 many], .int .i64 at_] w fun e w' => ∃ g, e = .returned (.slice (some ⟨g, 0, none⟩) many many) ∧ w.heap.size ≤ g ∧ Blk w' g 53 (cvs (paL l at_ many)).toArray ∧ Below w.heap.size w w' := by
  have hal := balloc (Below.refl w.heap.size w) (.cells #[v, .int .i64 many] 73)
  have hN := Blk.new w 73 #[v, .int .i64 many]
  have HV := Lib.hid (hv.new hal)
  obtain ⟨x, c, rfl⟩ := hv.is
  have HB := Lib.hid hB
  have HAL := Lib.hid hal
  have HN := Lib.hid hN
  clear hv hal hN hB
  go_enter Try.func43, Try.ntmps43
  go_wp2_with (first
    | (go_at_call 54; refine (tcut_any B at_ many _ l _ HV.out).mono ?_; rintro e w1 ⟨⟨y, E, rfl, hy⟩, rfl⟩; have HY := Lib.hid hy; clear hy)
    | (go_at_call 31
       refine (madeC_from many hm (fun i => cg ((l.drop at_).take many) i) _ _ (from_side B at_ many l w HB.out _ y E HY.out)).mono ?_
       rintro e w2 ⟨rfl, hb, hw⟩; have H2 := Lib.hid (And.intro hb hw); clear hb hw))
  go_ret
  have h3 := H2.out
  rw [paL_cut] at h3
  have h4 := h3.1
  rw [World.size_alloc] at h4
  exact ⟨_, rfl, by omega, h4, bstep (balloc (Below.refl w.heap.size w) _) h3.2⟩
set_option maxRecDepth 100000 in
set_option maxHeartbeats 1000000 in
theorem tof_any (B a : Nat) (ha : a < 2 ^ 64) (v : Value) (l : List Nat) (hl : l.length ≤ 1000000) (w : World) (hv : Bto B w v l) :
    Calls Try.prog 9 #[v, .int .u64 (a : Nat)] w fun e w' => ∃ g, e = .returned (.slice (some ⟨g, 0, none⟩) l.length l.length) ∧ w.heap.size ≤ g ∧ Blk w' g 53 (cvs (l.map fun x => (x, a))).toArray ∧ Below w.heap.size w w' := by
  obtain ⟨X, hX⟩ : ∃ X, (w.alloc (.cells #[v] 23)).alloc (.cells #[.int .u64 (a : Nat)] 27) = X := ⟨_, rfl⟩
  have hal : Below w.heap.size w X := by rw [← hX]; exact balloc (balloc (Below.refl w.heap.size w) _) _
  have hN1 : Blk X w.heap.size 23 #[v] := by rw [← hX]; exact (Blk.new w _ _).alloc _
  have hN2 : Blk X (w.heap.size + 1) 27 #[.int .u64 (a : Nat)] := by rw [← hX]; exact Blk.newS w _ _ _
  have hv2 := hv.new hal
  obtain ⟨h1, x, c, rfl, h3, h4, h5⟩ := hv2
  have hside : ∀ k, k < l.length → ∀ Y, Below X.heap.size X Y → Calls Try.prog 32 #[.int .i64 k, .pointer (some ⟨w.heap.size, 0, none⟩), .pointer (some ⟨w.heap.size + 1, 0, none⟩)] Y fun e Y' => e = .returned (cV ((fun i => (l.getD i 0, a)) k).1 ((fun i => (l.getD i 0, a)) k).2) ∧ Below Y.heap.size Y Y' := fun k hk Y hY => by
    obtain ⟨b, o, rfl, hb, hbX, hc⟩ := h5 (by intro e; rw [e] at hk; simp at hk)
    have hk2 : l[k]? = some (l.getD k 0) := by rw [List.getD_eq_getElem?_getD]; simp [hk]
    exact of1_any a (l.getD k 0) k (w.heap.size + 1) w.heap.size b o l.length c Y ha hk (cell_of_row _ _ 0 _ _ _ (hN1.keep hY)) (cell_of_row _ _ 0 _ _ _ (hN2.keep hY)) ((hY.cell (p := ⟨b, o + k, none⟩) hbX).trans (hc k _ hk2))
  have HM := Lib.hid (madeC_of l.length hl (fun i => (l.getD i 0, a)) (.pointer (some ⟨w.heap.size, 0, none⟩)) (.pointer (some ⟨w.heap.size + 1, 0, none⟩)) X hside)
  have hmap : (List.range l.length).map (fun i => (l.getD i 0, a)) = l.map fun x => (x, a) := by
    apply List.ext_getElem?
    intro i
    by_cases hi : i < l.length
    · simp [hi]
    · simp [hi]
  rw [hmap] at HM
  have HX := Lib.hid hX
  have HAL := Lib.hid hal
  clear hv hside h5 h3 h4 h1 hX hal hN1 hN2 hmap
  go_enter Try.func9, Try.ntmps9
  go_wp2_with (first
    | (rw [HX.out]; go_at_call 31; refine HM.out.mono ?_; rintro e w2 ⟨rfl, hb, hw⟩; have H2 := Lib.hid (And.intro hb hw); clear hb hw))
  go_ret
  exact ⟨_, rfl, HAL.out.size, H2.out.1, bstep HAL.out H2.out.2⟩
set_option maxRecDepth 100000 in
set_option maxHeartbeats 1000000 in
theorem tjoin_any (B a : Nat) (ha : a < 2 ^ 64) (v : Value) (l : List (Nat × Nat)) (hl : l.length ≤ 1000000) (w : World) (hv : Cs B w v l) :
    Calls Try.prog 15 #[.int .u64 (a : Nat), v] w fun e w' => ∃ g, e = .returned (.slice (some ⟨g, 0, none⟩) l.length l.length) ∧ w.heap.size ≤ g ∧ Blk w' g 53 (cvs (l.map fun x => (x.1, x.2 ||| a))).toArray ∧ Below w.heap.size w w' := by
  obtain ⟨X, hX⟩ : ∃ X, (w.alloc (.cells #[.int .u64 (a : Nat)] 27)).alloc (.cells #[v] 22) = X := ⟨_, rfl⟩
  have hal : Below w.heap.size w X := by rw [← hX]; exact balloc (balloc (Below.refl w.heap.size w) _) _
  have hN1 : Blk X w.heap.size 27 #[.int .u64 (a : Nat)] := by rw [← hX]; exact (Blk.new w _ _).alloc _
  have hN2 : Blk X (w.heap.size + 1) 22 #[v] := by rw [← hX]; exact Blk.newS w _ _ _
  have hv2 := hv.new hal
  have hok := hv.1
  have hside : ∀ k, k < l.length → ∀ Y, Below X.heap.size X Y → Calls Try.prog 40 #[.int .i64 k, .pointer (some ⟨w.heap.size + 1, 0, none⟩), .pointer (some ⟨w.heap.size, 0, none⟩)] Y fun e Y' => e = .returned (cV ((fun i => ((cg l i).1, (cg l i).2 ||| a)) k).1 ((fun i => ((cg l i).1, (cg l i).2 ||| a)) k).2) ∧ Below Y.heap.size Y Y' := fun k hk Y hY => by
    obtain ⟨b, o, c, e, hbX, c0, c1⟩ := Cs.at (hv2.new hY) hk
    subst e
    exact join1_any9 a (cg l k).1 (cg l k).2 k w.heap.size (w.heap.size + 1) b o l.length c Y ha (cg_ok hok k).2 hk (cell_of_row _ _ 0 _ _ _ (hN2.keep hY)) (cell_of_row _ _ 0 _ _ _ (hN1.keep hY)) c0 c1
  have HM := Lib.hid (madeC_join l.length hl (fun i => ((cg l i).1, (cg l i).2 ||| a)) (.pointer (some ⟨w.heap.size + 1, 0, none⟩)) (.pointer (some ⟨w.heap.size, 0, none⟩)) X hside)
  have hmap : (List.range l.length).map (fun i => ((cg l i).1, (cg l i).2 ||| a)) = l.map fun x => (x.1, x.2 ||| a) := by
    apply List.ext_getElem?
    intro i
    by_cases hi : i < l.length
    · simp only [List.getElem?_map, List.getElem?_range hi, Option.map_some, cg_lt hi]
    · simp [hi]
  rw [hmap] at HM
  obtain ⟨x, c, rfl⟩ := hv.is
  have HX := Lib.hid hX
  have HAL := Lib.hid hal
  clear hv hv2 hok hside hX hal hN1 hN2 hmap
  go_enter Try.func15, Try.ntmps15
  go_wp2_with (first
    | (rw [HX.out]; go_at_call 31; refine HM.out.mono ?_; rintro e w2 ⟨rfl, hb, hw⟩; have H2 := Lib.hid (And.intro hb hw); clear hb hw))
  go_ret
  exact ⟨_, rfl, HAL.out.size, H2.out.1, bstep HAL.out H2.out.2⟩
theorem map_cg {α : Type} (l : List (Nat × Nat)) (f : Nat × Nat → α) : (List.range l.length).map (fun i => f (cg l i)) = l.map f := by
  apply List.ext_getElem?
  intro i
  by_cases hi : i < l.length
  · simp only [List.getElem?_map, List.getElem?_range hi, Option.map_some, cg_lt hi]
  · simp [hi]
set_option maxRecDepth 100000 in
set_option maxHeartbeats 1000000 in
theorem tbytes_any (B : Nat) (v : Value) (l : List (Nat × Nat)) (hl : l.length ≤ 1000000) (w : World) (hv : Cs B w v l) :
    Calls Try.prog 11 #[v] w fun e w' => ∃ g, e = .returned (.slice (some ⟨g, 0, none⟩) l.length l.length) ∧ w.heap.size ≤ g ∧ Blk w' g 5 (bvs (l.map (·.1))).toArray ∧ Below w.heap.size w w' := by
  obtain ⟨X, hX⟩ : ∃ X, w.alloc (.cells #[v] 22) = X := ⟨_, rfl⟩
  have hal : Below w.heap.size w X := by rw [← hX]; exact balloc (Below.refl w.heap.size w) _
  have hN1 : Blk X w.heap.size 22 #[v] := by rw [← hX]; exact Blk.new w _ _
  have hv2 := hv.new hal
  have hside : ∀ k, k < l.length → ∀ Y, Below X.heap.size X Y → Calls Try.prog 35 #[.int .i64 k, .pointer (some ⟨w.heap.size, 0, none⟩)] Y fun e Y' => e = .returned (.int .u8 ((fun i => (cg l i).1) k : Nat)) ∧ Below Y.heap.size Y Y' := fun k hk Y hY => by
    refine (bytes1_any9 B k w.heap.size v l Y hk (hv2.new hY) (cell_of_row _ _ 0 _ _ _ (hN1.keep hY))).mono ?_
    rintro e Z ⟨rfl, rfl⟩
    exact ⟨rfl, Below.refl _ _⟩
  have HM := Lib.hid (madeB_bytes l.length hl (fun i => (cg l i).1) (.pointer (some ⟨w.heap.size, 0, none⟩)) X hside)
  rw [map_cg l (·.1)] at HM
  obtain ⟨x, c, rfl⟩ := hv.is
  have HX := Lib.hid hX
  have HAL := Lib.hid hal
  clear hv hv2 hside hX hal hN1
  go_enter Try.func11, Try.ntmps11
  go_wp2_with (first
    | (rw [HX.out]; go_at_call 34; refine HM.out.mono ?_; rintro e w2 ⟨rfl, hb, hw⟩; have H2 := Lib.hid (And.intro hb hw); clear hb hw))
  go_ret
  exact ⟨_, rfl, HAL.out.size, H2.out.1, bstep HAL.out H2.out.2⟩
theorem LsA.of_blk {X : World} {g : Nat} {t : TypeId} {l : List Nat} (h : Blk X g t (lvs l).toArray) (h1 : ∀ a ∈ l, a < 2 ^ 64) (hl : l.length < 1000000000000) (c : Nat) : LsA X (.slice (some ⟨g, 0, none⟩) l.length c) l :=
  ⟨_, _, rfl, ⟨hl, h1⟩, fun _ => ⟨g, 0, rfl, h.lt, fun k a ha => by rw [Nat.zero_add, cell_of_row _ _ _ _ _ _ h, List.getElem?_toArray, lvs_get, ha]; rfl⟩⟩
/-- The join of all labels. -/
def jl (l : List (Nat × Nat)) : Nat := joinL (l.map (·.2))
set_option maxRecDepth 100000 in
set_option maxHeartbeats 1000000 in
theorem tlabel_any (B : Nat) (v : Value) (l : List (Nat × Nat)) (hl : l.length ≤ 1000000) (w : World) (hv : Cs B w v l) :
    Calls Try.prog 13 #[v] w fun e w' => e = .returned (.int .u64 (jl l : Nat)) ∧ Below w.heap.size w w' := by
  obtain ⟨X, hX⟩ : ∃ X, w.alloc (.cells #[v] 22) = X := ⟨_, rfl⟩
  have hal : Below w.heap.size w X := by rw [← hX]; exact balloc (Below.refl w.heap.size w) _
  have hN1 : Blk X w.heap.size 22 #[v] := by rw [← hX]; exact Blk.new w _ _
  have hv2 := hv.new hal
  have hok := hv.1
  have hside : ∀ k, k < l.length → ∀ Y, Below X.heap.size X Y → Calls Try.prog 38 #[.int .i64 k, .pointer (some ⟨w.heap.size, 0, none⟩)] Y fun e Y' => e = .returned (.int .u64 ((fun i => (cg l i).2) k : Nat)) ∧ Below Y.heap.size Y Y' := fun k hk Y hY => by
    refine (label1_any9 B k w.heap.size v l Y hk (hv2.new hY) (cell_of_row _ _ 0 _ _ _ (hN1.keep hY))).mono ?_
    rintro e Z ⟨rfl, rfl⟩
    exact ⟨rfl, Below.refl _ _⟩
  have HM := Lib.hid (madeL_label l.length hl (fun i => (cg l i).2) (.pointer (some ⟨w.heap.size, 0, none⟩)) X hside)
  rw [map_cg l (·.2)] at HM
  have HL := Lib.hid (fun (Z : World) (h : Blk Z X.heap.size 27 (lvs (l.map (·.2))).toArray) => join_any (l.map (·.2)) (.slice (some ⟨X.heap.size, 0, none⟩) l.length l.length) Z (by
    have := LsA.of_blk h (fun a ha => by obtain ⟨b, hb, rfl⟩ := List.mem_map.1 ha; exact (hok b hb).2) (by rw [List.length_map]; omega) l.length
    rwa [List.length_map] at this))
  obtain ⟨x, c, rfl⟩ := hv.is
  have HX := Lib.hid hX
  have HAL := Lib.hid hal
  clear hv hv2 hok hside hX hal hN1
  go_enter Try.func13, Try.ntmps13
  go_wp2_with (first
    | (rw [HX.out]; go_at_call 37; refine HM.out.mono ?_; rintro e w2 ⟨rfl, hb, hw⟩; have H2 := Lib.hid (And.intro hb hw); clear hb hw)
    | (go_at_call 36; refine (HL.out _ H2.out.1).mono ?_; rintro e w3 ⟨rfl, rfl⟩))
  go_ret
  exact ⟨rfl, bstep HAL.out H2.out.2⟩
end Go.Proofs.Ytkhdjlahfbmkoaa
