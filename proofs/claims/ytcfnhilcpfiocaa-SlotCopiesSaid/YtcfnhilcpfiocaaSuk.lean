/- slot: SlotPlays' walk. -/
import Derived.Test.YtcfnhilcpfiocaaSuj
namespace Go.Proofs.Ytcfnhilcpfiocaa
open Go.RowKit Go.Shelf Go.ChangeMaps Go.MapKept
attribute [local go_sem] Oper.semAt_some
/-- What cannot panic need not say what follows a panic. -/
def noPanic (Q : Exit → Act → World → Prop) : Exit → Act → World → Prop
  | .panic _, _, _ => False
  | e, a, w => Q e a w
theorem wp_noPanic {P : Program} {c : Code} {Q : Exit → Act → World → Prop} {a : Act} {w : World} (h : c.wp P (noPanic Q) a w) : c.wp P Q a w :=
  wp_mono h fun e a w hq => by cases e <;> first | exact hq | exact hq.elim
theorem put_len (l : List Rw) (n : Nat) (v : Nat × Nat) : (putL l n v).length ≤ l.length + 1 := by
  unfold putL
  rw [List.length_append, List.length_append]
  have h1 : (midL n v (rowN l n).2.2).length ≤ 1 := by unfold midL; split <;> simp
  have h2 : ((l.dropWhile (fun r => decide (r.1 < n))).filter (fun r => decide (r.1 ≠ n))).length ≤ (l.dropWhile (fun r => decide (r.1 < n))).length := List.length_filter_le _ _
  have h3 : (l.takeWhile (fun r => decide (r.1 < n))).length + (l.dropWhile (fun r => decide (r.1 < n))).length = l.length := by rw [← List.length_append, List.takeWhile_append_dropWhile]
  omega
theorem ac_len (l : List Rw) (z : Int) (y : Nat) (v : Nat × Nat) : (acL l z y v).length ≤ l.length + 1 := by
  unfold acL
  split
  · exact put_len l y v
  · split
    · unfold settleL; rw [List.length_map]; have := List.length_filter_le (fun r : Rw => decide (r.2.1 ≠ Z2)) l; omega
    · omega
theorem StW.keep {D : Nat} {X Y : World} {p r : Value} {l : List Rw} (h : StW D X p r l) (hb : Below X.heap.size X Y) : StW D Y p r l := by
  obtain ⟨g, bv, bw, many, fv, fw, e, hs, ho, h1⟩ := h
  exact ⟨g, bv, bw, many, fv, fw, e, hs.keep hb, ho.keep hb, h1⟩
theorem StW.get {D : Nat} {X : World} {p r : Value} {l : List Rw} (h : StW D X p r l) (n : Nat) (hn : n < MM) : Calls Try.prog 10 #[p, W n] X fun e w' => e = .returned (vP (rowN l n).2.1) ∧ Below X.heap.size X w' := by
  obtain ⟨g, bv, bw, many, fv, fw, rfl, hs, ho, hr, h1⟩ := h
  have := get_any g bv bw many fv fw n hn X hs
  rw [hr.2.2.1 n]; exact this
theorem StW.was {D : Nat} {X : World} {p r : Value} {l : List Rw} (h : StW D X p r l) (n : Nat) (hn : n < MM) : Calls Try.prog 12 #[p, W n] X fun e w' => e = .returned (vP (rowN l n).2.2) ∧ Below X.heap.size X w' := by
  obtain ⟨g, bv, bw, many, fv, fw, rfl, hs, ho, hr, h1⟩ := h
  have := was_any g bv bw many fv fw n hn X hs
  rw [hr.2.2.1 n]; exact this
theorem StW.rows {D : Nat} {X : World} {p r : Value} {l : List Rw} (h : StW D X p r l) : OwR X D r l := by
  obtain ⟨g, bv, bw, many, fv, fw, rfl, hs, ho, h1⟩ := h
  exact ho
theorem StW.okN {D : Nat} {X : World} {p r : Value} {l : List Rw} (h : StW D X p r l) (n : Nat) : okP (rowN l n).2.1 ∧ okP (rowN l n).2.2 := by
  have h := h.rows
  rw [rowN_Q]
  cases hq : rowQ l n with
  | none => exact ⟨okP0, okP0⟩
  | some x => exact (h.1 x (rowQ_mem hq).1).2
theorem StW.ptr {D : Nat} {X : World} {p r : Value} {l : List Rw} (h : StW D X p r l) : ∃ g bv bw many fv fw, p = .pointer (some ⟨g, 0, none⟩) ∧ SlB X g bv bw fv fw many := by
  obtain ⟨g, bv, bw, many, fv, fw, e, hs, _⟩ := h
  exact ⟨g, bv, bw, many, fv, fw, e, hs⟩
theorem As.atP {B : Nat} {X : World} {v : Value} {l : List (Int × Nat × Nat × Nat)} (h : As B X v l) {k : Nat} {a : Int × Nat × Nat × Nat} (hk : l[k]? = some a) : ∃ b o c, v = .slice (some ⟨b, o, none⟩) l.length c ∧ l.length ≤ c ∧ b < B ∧ b < X.heap.size ∧ okA a ∧ ∀ j, j < 10 → X.cell? ⟨b, o + k * 10 + j, none⟩ = (acC a)[j]? := by
  obtain ⟨h1, x, cap, rfl, h3, _, h5⟩ := h
  obtain ⟨b, o, rfl, hb, hx, hc⟩ := h5 (fun e => by rw [e] at hk; cases hk)
  exact ⟨b, o, cap, rfl, h3, hb, hx, h1 a (List.mem_of_getElem? hk), hc k a hk⟩
theorem StW.set {D b : Nat} {X : World} {p r u : Value} {l : List Rw} {cs : Array Value} (h : StW D X p r l) (hk : Blk X b 31 cs) : StW D (X.setCell ⟨b, 0, none⟩ u) p r l := by
  obtain ⟨g, bv, bw, many, fv, fw, e, hs, ho, h1⟩ := h
  have hgr := grown_set' (grown_refl X b) 0 u
  have e0 := box_ne hk hs.1 (by decide)
  have e1 := blk_ne_map hk hs.2.1
  have e2 := blk_ne_map hk hs.2.2.1
  have e3 := ho.apart hk (fun cs fr e => by injection e with _ e; exact absurd e (by decide))
  have hne : ∀ k, k ≠ b → ¬ (some k = some b) := fun k hk e => hk (Option.some.inj e)
  exact ⟨g, bv, bw, many, fv, fw, e, hs.chg (Chg.of hgr) (hne _ (Ne.symm e0)) (hne _ (Ne.symm e1)) (hne _ (Ne.symm e2)), ⟨ho.1, World.ownsRow.kept ho.2 hgr (.inr e3)⟩, h1⟩
theorem allN_seq (n gk gm n₀ : Nat) (w : World) (hA : AlN w gk gm) : SeqV n Try.prog 32 #[.pointer (some ⟨gk, 0, none⟩), .pointer (some ⟨gm, 0, none⟩)] (fun x : Nat => #[W x, vP (0, 0)]) n₀ noMs (fun _ _ => True) (fun _ _ => False) (fun xs => xs = []) (fun _ => False) w := by
  intro L J Jx W hW _ _ _ _ h0
  refine (all1N_in n L gk gm (J []) W (hA.keep hW) h0).mono ?_
  rintro e Y ⟨h1, h2⟩
  exact ⟨h1, .inl ⟨[], rfl, h2⟩⟩
/-- The worlds of a round ahead of its end. -/
def PlS (D gS : Nat) (W1 : World) (r : Value) (X : World) : Prop := Below D W1 X ∧ Blk X gS 31 #[r]
theorem act_cellsP {X w' : World} {b o k : Nat} {a : Int × Nat × Nat × Nat} (hb : b < X.heap.size) (h : ∀ j, j < 10 → X.cell? ⟨b, o + k * 10 + j, none⟩ = (acC a)[j]?) (hk : Below X.heap.size X w') (j : Nat) (hj : j < 10) : w'.cell? ⟨b, o + k * 10 + j, none⟩ = (acC a)[j]? :=
  (hk.cell (p := ⟨b, o + k * 10 + j, none⟩) hb).trans (h j hj)
/-- What stands between two calls. -/
def PlI (D gS : Nat) (W1 : World) (k : Nat) (p : Value) (X : World) : Prop := ∃ r L, StW D X p r L ∧ Blk X gS 31 #[r] ∧ L.length ≤ k ∧ Below D W1 X
set_option maxRecDepth 100000 in
set_option maxHeartbeats 8000000 in
theorem splays_walk (v0 : Value) (l : List (Int × Nat × Nat × Nat)) (n : Nat) (hn : n < MM) (w : World) (hl : As w.heap.size w v0 l) :
    Calls Try.prog 3 #[v0, W n] w fun e w' => e = .returned (.bool true) ∧ Below w.heap.size w w' := by
  have hl3 : l.length ≤ 9223372036854775807 := by obtain ⟨_, _, _, _, _, h, _⟩ := hl; exact h
  obtain ⟨W1, hW1⟩ : ∃ W1, (w.alloc (.cells (Wc n) 25)).alloc (.cells #[.bool false] 4) = W1 := ⟨_, rfl⟩
  have nK : Blk W1 w.heap.size 25 (Wc n) := by rw [← hW1]; exact (Blk.new _ _ _).alloc _
  have nV : Blk W1 (w.heap.size + 1) 4 #[.bool false] := by rw [← hW1]; exact Blk.newS _ _ _ _
  have hB1 : Below w.heap.size w W1 := by rw [← hW1]; exact balloc (balloc (Below.refl _ _) _) _
  have hs1 : W1.heap.size = w.heap.size + 2 := by rw [← hW1]; simp
  by_cases hlong : 40 < l.length
  · have hI : ((40 : Int) < (l.length : Int)) := by omega
    obtain ⟨x, c, rfl⟩ := hl.is
    have HX := Lib.hid (And.intro hW1 (And.intro hB1 nV))
    clear hl hl3 hlong hn hs1 nK nV hB1 hW1
    refine (callsIn_wide (n := 20)).1 ?_
    refine callsIn_of_wp_marks Try.func3 rfl trivial ?_ rfl
    simp only [Try.ntmps3, List.size_toArray, List.length_cons, List.length_nil, Nat.reduceAdd, Nat.reduceSub, Array.replicate_succ, Array.replicate_zero, List.push_toArray, List.append_toArray, List.nil_append, List.cons_append]
    refine (wpIn_wide (n := 20)).2 ?_
    go_upto_region 1 with fail
    rw [HX.out.1]
    go_wp2_with (first | (go_at_call 6; refine (sworks_any _).mono ?_; rintro e wz ⟨rfl, hz⟩; have hR := HX.out.2.2.keep hz; have f0 := frozen_of_row _ _ 0 _ _ hR; have d0 := cell_of_row _ _ 0 _ _ _ hR; have HZ := Lib.hid (And.intro hR hz); clear hz hR) | fail)
    have hT := heap_setCell_same wz (w.heap.size + 1) 0 _ _ (.bool true) HZ.out.1
    have q0 := cell_of_row _ _ 0 _ _ _ hT
    exact ⟨.bool true, by simp [results, Try.results3, go_sem, q0], rfl, (bstep HX.out.2.1 HZ.out.2).setCell (p := ⟨w.heap.size + 1, 0, none⟩) (by simp) _⟩
  have hI : ¬ ((40 : Int) < (l.length : Int)) := by omega
  have HA := Lib.hid (And.intro hl (And.intro hlong (And.intro hn (And.intro nK (And.intro nV (And.intro hB1 hs1))))))
  have HW1 := Lib.hid hW1
  obtain ⟨x, c, rfl⟩ := hl.is
  obtain ⟨N, hN⟩ : ∃ N, l.length = N := ⟨_, rfl⟩
  have HN := Lib.hid hN
  rw [hN] at hI HA ⊢
  clear hl hl3 hlong hn nK nV hB1 hW1 hN hs1
  refine (callsIn_wide (n := 20)).1 ?_
  refine callsIn_of_wp_marks Try.func3 rfl trivial ?_ rfl
  simp only [Try.ntmps3, List.size_toArray, List.length_cons, List.length_nil, Nat.reduceAdd, Nat.reduceSub, Array.replicate_succ, Array.replicate_zero, List.push_toArray, List.append_toArray, List.nil_append, List.cons_append]
  refine (wpIn_wide (n := 20)).2 ?_
  go_upto_region 1 with fail
  rw [HW1.out]
  go_upto_region 4 with (first
    | (go_at_call 7; refine (new_any W1).mono ?_; rintro e w2 ⟨g, bv, bw, rfl, hs, hg, hb1, hb2, hB⟩; have H2 := Lib.hid (And.intro hs (And.intro hg (And.intro hb1 (And.intro hb2 hB)))); clear hs hg hb1 hb2 hB)
    | fail)
  obtain ⟨W2, hW2⟩ : ∃ W2, w2.alloc (.cells #[.slice none 0 0] 31) = W2 := ⟨_, rfl⟩
  obtain ⟨gS, hgS⟩ : ∃ g, w2.heap.size = g := ⟨_, rfl⟩
  have hB2 : Below w2.heap.size w2 W2 := by rw [← hW2]; exact balloc (Below.refl _ _) _
  have HI0 := Lib.hid (show PlI W1.heap.size gS W1 0 (.pointer (some ⟨g, 0, none⟩)) W2 from ⟨.slice none 0 0, [], ⟨g, bv, bw, 0, fun _ => none, fun _ => none, rfl, H2.out.1.keep hB2, OwR.nil _ _, Rel.start, by show Cnt (fun _ => (0, 0)) 0; exact Cnt.none, H2.out.2.1, H2.out.2.2.1, H2.out.2.2.2.1⟩, by rw [← hW2, ← hgS]; exact Blk.new _ _ _, Nat.le_refl _, bstep H2.out.2.2.2.2 hB2⟩)
  have HGS := Lib.hid (show W1.heap.size ≤ gS from by rw [← hgS]; exact H2.out.2.2.2.2.size)
  have HW2 := Lib.hid (And.intro hgS hW2)
  clear hB2 hW2 hgS H2
  go_wp2_with fail
  rw [HW2.out.1, HW2.out.2]
  go_loopw [5, 7] (fun p i wr => ∃ k : Nat, k ≤ N ∧ i = .int .i64 k ∧ PlI W1.heap.size gS W1 k p wr) (fun _ i _ => N - (intOf i).toNat)
  case atStart => exact ⟨0, Nat.zero_le _, rfl, HI0.out⟩
  case round =>
    obtain ⟨k, hk, rfl, r, L, hst, hbS, hLk, hbl⟩ := hrel
    by_cases hlt : k < N
    · have hltI : (k : Int) < (N : Int) := by omega
      obtain ⟨a, ha⟩ : ∃ a, l[k]? = some a := ⟨_, List.getElem?_eq_getElem (by rw [HN.out]; exact hlt)⟩
      obtain ⟨b, o, c2, e, hcap, hb0, hbw, hok, hcell⟩   := As.atP HA.out.1 ha
      injection e with e1 e2 e3
      subst e1
      have hcl : ∀ w', Below W1.heap.size W1 w' → ∀ j, j < 10 → w'.cell? ⟨b, o + k * 10 + j, none⟩ = (acC a)[j]? := fun w' hk => act_cellsP hbw hcell (bstep HA.out.2.2.2.2.2.1 hk)
      obtain ⟨z0, y0, u0⟩ := a
      have HACT := Lib.hid (fun X (h : StW W1.heap.size X u5 r L) (hD : W1.heap.size ≤ X.heap.size) => act_any W1.heap.size u5 r L z0 y0 hok.2.1 u0 hok.2.2 X hD h (by have := HA.out; omega) (fun many hm => by have h2 : (allL L).length ≤ L.length := (by unfold allL; exact List.length_filter_le _ _); have := HA.out; omega))
      have cl0 : ∀ w', PlS W1.heap.size gS W1 r w' → w'.cell? ⟨b, o + k * 10, none⟩ = some (.int .i64 z0) := fun w' h => hcl w' h.1 0 (by omega)
      have cl1 : ∀ w', PlS W1.heap.size gS W1 r w' → w'.cell? ⟨b, o + k * 10 + 1, none⟩ = some (.int .u64 (lb y0 0)) := fun w' h => hcl w' h.1 1 (by omega)
      have cl2 : ∀ w', PlS W1.heap.size gS W1 r w' → w'.cell? ⟨b, o + k * 10 + 2, none⟩ = some (.int .u64 (lb y0 1)) := fun w' h => hcl w' h.1 2 (by omega)
      have cl3 : ∀ w', PlS W1.heap.size gS W1 r w' → w'.cell? ⟨b, o + k * 10 + 3, none⟩ = some (.int .u64 (lb y0 2)) := fun w' h => hcl w' h.1 3 (by omega)
      have cl4 : ∀ w', PlS W1.heap.size gS W1 r w' → w'.cell? ⟨b, o + k * 10 + 4, none⟩ = some (.int .u64 (lb y0 3)) := fun w' h => hcl w' h.1 4 (by omega)
      have cl5 : ∀ w', PlS W1.heap.size gS W1 r w' → w'.cell? ⟨b, o + k * 10 + 5, none⟩ = some (.int .u64 (lb u0.1 0)) := fun w' h => hcl w' h.1 5 (by omega)
      have cl6 : ∀ w', PlS W1.heap.size gS W1 r w' → w'.cell? ⟨b, o + k * 10 + 6, none⟩ = some (.int .u64 (lb u0.1 1)) := fun w' h => hcl w' h.1 6 (by omega)
      have cl7 : ∀ w', PlS W1.heap.size gS W1 r w' → w'.cell? ⟨b, o + k * 10 + 7, none⟩ = some (.int .u64 (lb u0.1 2)) := fun w' h => hcl w' h.1 7 (by omega)
      have cl8 : ∀ w', PlS W1.heap.size gS W1 r w' → w'.cell? ⟨b, o + k * 10 + 8, none⟩ = some (.int .u64 (lb u0.1 3)) := fun w' h => hcl w' h.1 8 (by omega)
      have cl9 : ∀ w', PlS W1.heap.size gS W1 r w' → w'.cell? ⟨b, o + k * 10 + 9, none⟩ = some (.int .u64 (u0.2 : Nat)) := fun w' h => hcl w' h.1 9 (by omega)
      have cS : ∀ w', PlS W1.heap.size gS W1 r w' → w'.cell? ⟨gS, 0, none⟩ = some r := fun w' h => cell_of_row _ _ 0 _ _ _ h.2
      have hdl : decide (N ≤ k) = false := decide_eq_false (by omega)
      have hdl2 : decide ((N : Int) ≤ (k : Int)) = false := decide_eq_false (by omega)
      have hS0 : PlS W1.heap.size gS W1 r wr.drew := ⟨hbl.trans (below_drew' (Below.refl _ _)), hbS⟩
      have hW0 : StW W1.heap.size wr.drew u5 r L := hst.keep (below_drew' (Below.refl _ _))
      have HL := Lib.hid (And.intro hLk hk)
      clear ha hcap hb0 hbw hok hcell hcl e2 e3 hst hbS hbl hLk hk
      go_upto_region 8 with fail
      go_cut [8, 9, 10] from 24 to 34 (fun p q t wx => ∃ (r2 : Value) (L2 : List Rw) (gT : Nat), q = .pointer (some ⟨gT, 0, none⟩) ∧ t = .bool true ∧ StW W1.heap.size wx p r2 L2 ∧ L2.length ≤ k + 1 ∧ Blk wx gS 31 #[r] ∧ Blk wx gT 31 #[r2] ∧ gS ≠ gT ∧ W1.heap.size ≤ gT ∧ Below W1.heap.size W1 wx)
      case first =>
        have hHd := hS0
        refine wp_noPanic ?_
        refine wp_region_held_drew (S := PlS W1.heap.size gS W1 r) (by as_aux_lemma => kernel_rfl) hHd (fun hHeld => ?_)
        simp only [List.size_toArray, List.length_cons, List.length_nil, Nat.reduceAdd, Array.replicate_succ, Array.replicate_zero, List.push_toArray, List.nil_append, List.cons_append]
        obtain ⟨wd, hwd⟩ : ∃ X, wr.drew = X := ⟨_, rfl⟩
        rw [hwd] at hS0 hW0 hHeld ⊢
        clear hHd hwd
        refine wpAnyH_take (i := 0) (oi := { dst := some 25, op := Op.move (Operand.tmp 5), type := 27, pos := "law.go:79", after := #[], guard := none }) (v := ?vq0) rfl (by as_aux_lemma => kernel_rfl) (by as_aux_lemma => kernel_rfl) (by as_aux_lemma => kernel_rfl) (fun _ _ _ h => h) (Or.inl ⟨by rfl, ?yq0⟩) (by assumption) ?rq0
        case yq0 => (intro w hSw; (try dsimp only at hSw); go_simp <;> with_reducible rfl)
        simp only [Act.put, List.setIfInBounds_toArray, List.set_cons_zero, List.set_cons_succ]
        refine wpAnyH_take (i := 1) (oi := { dst := some 26, op := Op.load 31 (Operand.tmp 6), type := 31, pos := "law.go:79", after := #[], guard := none }) (v := ?vq1) rfl (by as_aux_lemma => kernel_rfl) (by as_aux_lemma => kernel_rfl) (by as_aux_lemma => kernel_rfl) (fun _ _ _ h => h) (Or.inl ⟨by rfl, ?yq1⟩) (by assumption) ?rq1
        case yq1 => (intro w hSw; (try dsimp only at hSw); go_simp <;> with_reducible rfl)
        simp only [Act.put, List.setIfInBounds_toArray, List.set_cons_zero, List.set_cons_succ]
        refine wpAnyH_take (i := 2) (oi := { dst := some 27, op := Op.move (Operand.tmp 0), type := 22, pos := "law.go:79", after := #[], guard := none }) (v := ?vq2) rfl (by as_aux_lemma => kernel_rfl) (by as_aux_lemma => kernel_rfl) (by as_aux_lemma => kernel_rfl) (fun _ _ _ h => h) (Or.inl ⟨by rfl, ?yq2⟩) (by assumption) ?rq2
        case yq2 => (intro w hSw; (try dsimp only at hSw); go_simp <;> with_reducible rfl)
        simp only [Act.put, List.setIfInBounds_toArray, List.set_cons_zero, List.set_cons_succ]
        refine wpAnyH_take (i := 3) (oi := { dst := some 28, op := Op.move (Operand.tmp 7), type := 3, pos := "law.go:79", after := #[], guard := none }) (v := ?vq3) rfl (by as_aux_lemma => kernel_rfl) (by as_aux_lemma => kernel_rfl) (by as_aux_lemma => kernel_rfl) (fun _ _ _ h => h) (Or.inl ⟨by rfl, ?yq3⟩) (by assumption) ?rq3
        case yq3 => (intro w hSw; (try dsimp only at hSw); go_simp <;> with_reducible rfl)
        simp only [Act.put, List.setIfInBounds_toArray, List.set_cons_zero, List.set_cons_succ]
        refine wpAnyH_take (i := 4) (oi := { dst := some 29, op := Op.indexAddr 22 (Operand.tmp 27) (Operand.tmp 28), type := 0, pos := "law.go:79", after := #[{ on := 2, ground := Ground.data }, { on := 3, ground := Ground.data }], guard := none }) (v := ?vq4) rfl (by as_aux_lemma => kernel_rfl) (by as_aux_lemma => kernel_rfl) (by as_aux_lemma => kernel_rfl) (fun _ _ _ h => h) (Or.inl ⟨by rfl, ?yq4⟩) (by assumption) ?rq4
        case yq4 => (intro w hSw; (try dsimp only at hSw); go_simp <;> with_reducible rfl)
        simp only [Act.put, List.setIfInBounds_toArray, List.set_cons_zero, List.set_cons_succ]
        refine wpAnyH_take (i := 5) (oi := { dst := some 30, op := Op.load 38 (Operand.tmp 29), type := 38, pos := "law.go:79", after := #[{ on := 4, ground := Ground.data }], guard := none }) (v := ?vq5) rfl (by as_aux_lemma => kernel_rfl) (by as_aux_lemma => kernel_rfl) (by as_aux_lemma => kernel_rfl) (fun _ _ _ h => h) (Or.inl ⟨by rfl, ?yq5⟩) (by assumption) ?rq5
        case yq5 => (intro w hSw; (try dsimp only at hSw); go_simp <;> with_reducible rfl)
        simp only [Act.put, List.setIfInBounds_toArray, List.set_cons_zero, List.set_cons_succ]
        refine wpAnyH_ready (rs := [6, 11]) (by as_aux_lemma => kernel_rfl) (by simp) ?_
        refine AllReadyH.cons (o := { dst := some 31, op := Op.call { callee := Callee.value (Operand.func 8), args := #[Operand.tmp 25, Operand.tmp 26, Operand.tmp 30], argTypes := #[27, 31, 38] }, type := 32, pos := "law.go:79", after := #[{ on := 0, ground := Ground.data }, { on := 1, ground := Ground.data }, { on := 5, ground := Ground.data }], guard := none }) rfl (fun K hK => ?_) ?_
        · rw [if_pos (by rfl)]
          go_simp
          (go_at_call 8; refine (HACT.out _ hW0 hS0.1.size).mono ?_; rintro e z6 ⟨pz6, rz6, rfl, hWz6, hBz6, hkz6⟩; obtain ⟨xz6, mz6, cz6, rfl⟩ : ∃ x m c, rz6 = .slice x m c := (by obtain ⟨x, c, h⟩ := hWz6.rows.is; exact ⟨x, _, c, h⟩))
          have hSz6 : PlS W1.heap.size gS W1 r z6 := ⟨hS0.1.trans hBz6, hkz6 _ _ hS0.2⟩
          refine hK.out _ _ (by (try dsimp only); exact hSz6) (fun hHeld => ?_)
          clear hK K
          simp only [List.setIfInBounds_toArray, List.set_cons_zero, List.set_cons_succ]
          refine wpAnyH_take (i := 7) (oi := { dst := some 24, op := Op.move (Operand.tmp 31), type := 32, pos := "law.go:79", after := #[{ on := 6, ground := Ground.data }], guard := none }) (v := ?vq7) rfl (by as_aux_lemma => kernel_rfl) (by as_aux_lemma => kernel_rfl) (by as_aux_lemma => kernel_rfl) (fun _ _ _ h => h) (Or.inl ⟨by rfl, ?yq7⟩) (by assumption) ?rq7
          case yq7 => (intro w hSw; (try dsimp only at hSw); go_simp <;> with_reducible rfl)
          simp only [Act.put, List.setIfInBounds_toArray, List.set_cons_zero, List.set_cons_succ]
          refine wpAnyH_take (i := 8) (oi := { dst := some 32, op := Op.extract (Operand.tmp 24) 0, type := 27, pos := "law.go:79", after := #[{ on := 7, ground := Ground.data }], guard := none }) (v := ?vq8) rfl (by as_aux_lemma => kernel_rfl) (by as_aux_lemma => kernel_rfl) (by as_aux_lemma => kernel_rfl) (fun _ _ _ h => h) (Or.inl ⟨by rfl, ?yq8⟩) (by assumption) ?rq8
          case yq8 => (intro w hSw; (try dsimp only at hSw); go_simp <;> with_reducible rfl)
          simp only [Act.put, List.setIfInBounds_toArray, List.set_cons_zero, List.set_cons_succ]
          refine wpAnyH_take (i := 9) (oi := { dst := some 33, op := Op.extract (Operand.tmp 24) 1, type := 31, pos := "law.go:79", after := #[{ on := 7, ground := Ground.data }, { on := 12, ground := Ground.gcOnly Departure.lateStores }], guard := none }) (v := ?vq9) rfl (by as_aux_lemma => kernel_rfl) (by as_aux_lemma => kernel_rfl) (by as_aux_lemma => kernel_rfl) (fun _ _ _ h => h) (Or.inl ⟨by rfl, ?yq9⟩) (by assumption) ?rq9
          case yq9 => (intro w hSw; (try dsimp only at hSw); go_simp <;> with_reducible rfl)
          simp only [Act.put, List.setIfInBounds_toArray, List.set_cons_zero, List.set_cons_succ]
          refine wpAnyH_take (i := 10) (oi := { dst := some 34, op := Op.extract (Operand.tmp 24) 2, type := 4, pos := "law.go:79", after := #[{ on := 7, ground := Ground.data }, { on := 13, ground := Ground.gcOnly Departure.lateStores }], guard := none }) (v := ?vq10) rfl (by as_aux_lemma => kernel_rfl) (by as_aux_lemma => kernel_rfl) (by as_aux_lemma => kernel_rfl) (fun _ _ _ h => h) (Or.inl ⟨by rfl, ?yq10⟩) (by assumption) ?rq10
          case yq10 => (intro w hSw; (try dsimp only at hSw); go_simp <;> with_reducible rfl)
          simp only [Act.put, List.setIfInBounds_toArray, List.set_cons_zero, List.set_cons_succ]
          refine wpAnyH_ready (rs := [11]) (by as_aux_lemma => kernel_rfl) (by simp) ?_
          refine AllReadyH.cons (o := { dst := some 9, op := Op.alloc 31, type := 0, pos := "law.go:79", after := #[], guard := none }) rfl (fun K hK => ?_) (by exact AllReadyH.nil)
          rw [if_pos (by rfl)]
          go_simp
          obtain ⟨y11, hy11⟩ : ∃ y, (z6).alloc (.cells #[.slice none 0 0] 31) = y := ⟨_, rfl⟩
          have hby11 : Blk y11 (z6).heap.size 31 #[.slice none 0 0] := by rw [← hy11]; exact Blk.new _ _ _
          have hzy11 : Below (z6).heap.size (z6) y11 := by rw [← hy11]; exact balloc (Below.refl _ _) _
          have hSy11 : PlS W1.heap.size gS W1 r y11 := ⟨hSz6.1.trans (hzy11.mono hSz6.1.size), hSz6.2.keep hzy11⟩
          have hWy11 := hWz6.keep hzy11
          have hny11 : gS ≠ (z6).heap.size := by have := hSz6.2.lt; omega
          have hly11 := hSz6.1.size
          obtain ⟨gy11, hgy11⟩ : ∃ g, (z6).heap.size = g := ⟨_, rfl⟩
          rw [hgy11] at hby11 hny11 hly11
          rw [hy11]
          rw [hgy11]
          refine hK.out _ _ (by (try dsimp only); exact hSy11) (fun hHeld => ?_)
          clear hK K
          simp only [List.setIfInBounds_toArray, List.set_cons_zero, List.set_cons_succ]
          refine wpAnyH_take (i := 12) (oi := { dst := some 8, op := Op.assign (Operand.tmp 32), type := 27, pos := "law.go:79", after := #[{ on := 8, ground := Ground.data }, { on := 6, ground := Ground.chain }, { on := 0, ground := Ground.phase }, { on := 1, ground := Ground.phase }, { on := 2, ground := Ground.phase }, { on := 3, ground := Ground.phase }, { on := 4, ground := Ground.phase }, { on := 5, ground := Ground.phase }, { on := 6, ground := Ground.phase }, { on := 7, ground := Ground.phase }, { on := 8, ground := Ground.phase }, { on := 9, ground := Ground.textOnly Departure.lateStores }, { on := 10, ground := Ground.textOnly Departure.lateStores }, { on := 11, ground := Ground.phase }], guard := none }) (v := ?vq12) rfl (by as_aux_lemma => kernel_rfl) (by as_aux_lemma => kernel_rfl) (by as_aux_lemma => kernel_rfl) (fun _ _ _ h => h) (Or.inl ⟨by rfl, ?yq12⟩) (by assumption) ?rq12
          case yq12 => (intro w hSw; (try dsimp only at hSw); go_simp <;> with_reducible rfl)
          simp only [Act.put, List.setIfInBounds_toArray, List.set_cons_zero, List.set_cons_succ]
          refine wpAnyH_ready (rs := [13]) (by as_aux_lemma => kernel_rfl) (by simp) ?_
          refine AllReadyH.cons (o := { dst := none, op := Op.store 31 (Operand.tmp 9) (Operand.tmp 33), type := 0, pos := "law.go:79", after := #[{ on := 11, ground := Ground.data }, { on := 9, ground := Ground.data }, { on := 12, ground := Ground.chain }, { on := 0, ground := Ground.phase }, { on := 1, ground := Ground.phase }, { on := 2, ground := Ground.phase }, { on := 3, ground := Ground.phase }, { on := 4, ground := Ground.phase }, { on := 5, ground := Ground.phase }, { on := 6, ground := Ground.phase }, { on := 7, ground := Ground.phase }, { on := 8, ground := Ground.phase }, { on := 9, ground := Ground.phase }, { on := 10, ground := Ground.textOnly Departure.lateStores }, { on := 11, ground := Ground.phase }, { on := 12, ground := Ground.phase }], guard := none }) rfl (fun K hK => ?_) (by exact AllReadyH.nil)
          rw [if_pos (by rfl)]
          have fx13 := frozen_of_row y11 _ 0 _ _ hby11
          have cx13 : y11.cell? ⟨gy11, 0, none⟩ = some (.slice none 0 0) := cell_of_row y11 _ 0 _ _ _ hby11
          go_simp
          have hbx13 := heap_setCell_same y11 gy11 0 _ _ (.slice xz6 mz6 cz6) hby11
          have hSx13 : PlS W1.heap.size gS W1 r (y11.setCell ⟨gy11, 0, none⟩ (.slice xz6 mz6 cz6)) := ⟨hSy11.1.setCell (p := ⟨gy11, 0, none⟩) hly11 _, hSy11.2.kept (grown_set' (grown_refl _ _) 0 _) (fun e => hny11 (Option.some.inj e))⟩
          have hWx13 := hWy11.set (u := (.slice xz6 mz6 cz6)) hby11
          obtain ⟨x13, hx13⟩ : ∃ Z, y11.setCell ⟨gy11, 0, none⟩ (.slice xz6 mz6 cz6) = Z := ⟨_, rfl⟩
          rw [hx13] at hbx13 hSx13 hWx13 ⊢
          clear hx13
          refine hK.out _ _ (by (try dsimp only); exact hSx13) (fun hHeld => ?_)
          clear hK K
          simp only [List.setIfInBounds_toArray, List.set_cons_zero, List.set_cons_succ]
          refine wpAnyH_take (i := 14) (oi := { dst := some 10, op := Op.assign (Operand.tmp 34), type := 4, pos := "law.go:79", after := #[{ on := 10, ground := Ground.data }, { on := 13, ground := Ground.chain }, { on := 0, ground := Ground.phase }, { on := 1, ground := Ground.phase }, { on := 2, ground := Ground.phase }, { on := 3, ground := Ground.phase }, { on := 4, ground := Ground.phase }, { on := 5, ground := Ground.phase }, { on := 6, ground := Ground.phase }, { on := 7, ground := Ground.phase }, { on := 8, ground := Ground.phase }, { on := 9, ground := Ground.phase }, { on := 10, ground := Ground.phase }, { on := 11, ground := Ground.phase }, { on := 12, ground := Ground.phase }, { on := 13, ground := Ground.phase }], guard := none }) (v := ?vq14) rfl (by as_aux_lemma => kernel_rfl) (by as_aux_lemma => kernel_rfl) (by as_aux_lemma => kernel_rfl) (fun _ _ _ h => h) (Or.inl ⟨by rfl, ?yq14⟩) (by assumption) ?rq14
          case yq14 => (intro w hSw; (try dsimp only at hSw); go_simp <;> with_reducible rfl)
          simp only [Act.put, List.setIfInBounds_toArray, List.set_cons_zero, List.set_cons_succ]
          refine wpAnyH_done (by as_aux_lemma => kernel_rfl) ?_ _
          clear hHeld
          simp only [noPanic]
          go_wp2_with fail
          go_meet
          exact ⟨(.slice xz6 mz6 cz6), acL L z0 y0 u0, gy11, rfl, rfl, hWx13, by have := ac_len L z0 y0 u0; have := HL.out.1; omega, hSx13.2, hbx13, hny11, hly11, hSx13.1⟩
        refine AllReadyH.cons (o := { dst := some 9, op := Op.alloc 31, type := 0, pos := "law.go:79", after := #[], guard := none }) rfl (fun K hK => ?_) (by exact AllReadyH.nil)
        rw [if_pos (by rfl)]
        go_simp
        obtain ⟨y15, hy15⟩ : ∃ y, (wd).alloc (.cells #[.slice none 0 0] 31) = y := ⟨_, rfl⟩
        have hby15 : Blk y15 (wd).heap.size 31 #[.slice none 0 0] := by rw [← hy15]; exact Blk.new _ _ _
        have hzy15 : Below (wd).heap.size (wd) y15 := by rw [← hy15]; exact balloc (Below.refl _ _) _
        have hSy15 : PlS W1.heap.size gS W1 r y15 := ⟨hS0.1.trans (hzy15.mono hS0.1.size), hS0.2.keep hzy15⟩
        have hWy15 := hW0.keep hzy15
        have hny15 : gS ≠ (wd).heap.size := by have := hS0.2.lt; omega
        have hly15 := hS0.1.size
        obtain ⟨gy15, hgy15⟩ : ∃ g, (wd).heap.size = g := ⟨_, rfl⟩
        rw [hgy15] at hby15 hny15 hly15
        rw [hy15]
        rw [hgy15]
        refine hK.out _ _ (by (try dsimp only); exact hSy15) (fun hHeld => ?_)
        clear hK K
        simp only [List.setIfInBounds_toArray, List.set_cons_zero, List.set_cons_succ]
        refine wpAnyH_ready (rs := [6]) (by as_aux_lemma => kernel_rfl) (by simp) ?_
        refine AllReadyH.cons (o := { dst := some 31, op := Op.call { callee := Callee.value (Operand.func 8), args := #[Operand.tmp 25, Operand.tmp 26, Operand.tmp 30], argTypes := #[27, 31, 38] }, type := 32, pos := "law.go:79", after := #[{ on := 0, ground := Ground.data }, { on := 1, ground := Ground.data }, { on := 5, ground := Ground.data }], guard := none }) rfl (fun K hK => ?_) (by exact AllReadyH.nil)
        rw [if_pos (by rfl)]
        go_simp
        (go_at_call 8; refine (HACT.out _ hWy15 hSy15.1.size).mono ?_; rintro e z16 ⟨pz16, rz16, rfl, hWz16, hBz16, hkz16⟩; obtain ⟨xz16, mz16, cz16, rfl⟩ : ∃ x m c, rz16 = .slice x m c := (by obtain ⟨x, c, h⟩ := hWz16.rows.is; exact ⟨x, _, c, h⟩))
        have hSz16 : PlS W1.heap.size gS W1 r z16 := ⟨hSy15.1.trans hBz16, hkz16 _ _ hSy15.2⟩
        have hbz16 := hkz16 _ _ hby15
        refine hK.out _ _ (by (try dsimp only); exact hSz16) (fun hHeld => ?_)
        clear hK K
        simp only [List.setIfInBounds_toArray, List.set_cons_zero, List.set_cons_succ]
        refine wpAnyH_take (i := 7) (oi := { dst := some 24, op := Op.move (Operand.tmp 31), type := 32, pos := "law.go:79", after := #[{ on := 6, ground := Ground.data }], guard := none }) (v := ?vq17) rfl (by as_aux_lemma => kernel_rfl) (by as_aux_lemma => kernel_rfl) (by as_aux_lemma => kernel_rfl) (fun _ _ _ h => h) (Or.inl ⟨by rfl, ?yq17⟩) (by assumption) ?rq17
        case yq17 => (intro w hSw; (try dsimp only at hSw); go_simp <;> with_reducible rfl)
        simp only [Act.put, List.setIfInBounds_toArray, List.set_cons_zero, List.set_cons_succ]
        refine wpAnyH_take (i := 8) (oi := { dst := some 32, op := Op.extract (Operand.tmp 24) 0, type := 27, pos := "law.go:79", after := #[{ on := 7, ground := Ground.data }], guard := none }) (v := ?vq18) rfl (by as_aux_lemma => kernel_rfl) (by as_aux_lemma => kernel_rfl) (by as_aux_lemma => kernel_rfl) (fun _ _ _ h => h) (Or.inl ⟨by rfl, ?yq18⟩) (by assumption) ?rq18
        case yq18 => (intro w hSw; (try dsimp only at hSw); go_simp <;> with_reducible rfl)
        simp only [Act.put, List.setIfInBounds_toArray, List.set_cons_zero, List.set_cons_succ]
        refine wpAnyH_take (i := 9) (oi := { dst := some 33, op := Op.extract (Operand.tmp 24) 1, type := 31, pos := "law.go:79", after := #[{ on := 7, ground := Ground.data }, { on := 12, ground := Ground.gcOnly Departure.lateStores }], guard := none }) (v := ?vq19) rfl (by as_aux_lemma => kernel_rfl) (by as_aux_lemma => kernel_rfl) (by as_aux_lemma => kernel_rfl) (fun _ _ _ h => h) (Or.inl ⟨by rfl, ?yq19⟩) (by assumption) ?rq19
        case yq19 => (intro w hSw; (try dsimp only at hSw); go_simp <;> with_reducible rfl)
        simp only [Act.put, List.setIfInBounds_toArray, List.set_cons_zero, List.set_cons_succ]
        refine wpAnyH_take (i := 10) (oi := { dst := some 34, op := Op.extract (Operand.tmp 24) 2, type := 4, pos := "law.go:79", after := #[{ on := 7, ground := Ground.data }, { on := 13, ground := Ground.gcOnly Departure.lateStores }], guard := none }) (v := ?vq20) rfl (by as_aux_lemma => kernel_rfl) (by as_aux_lemma => kernel_rfl) (by as_aux_lemma => kernel_rfl) (fun _ _ _ h => h) (Or.inl ⟨by rfl, ?yq20⟩) (by assumption) ?rq20
        case yq20 => (intro w hSw; (try dsimp only at hSw); go_simp <;> with_reducible rfl)
        simp only [Act.put, List.setIfInBounds_toArray, List.set_cons_zero, List.set_cons_succ]
        refine wpAnyH_take (i := 12) (oi := { dst := some 8, op := Op.assign (Operand.tmp 32), type := 27, pos := "law.go:79", after := #[{ on := 8, ground := Ground.data }, { on := 6, ground := Ground.chain }, { on := 0, ground := Ground.phase }, { on := 1, ground := Ground.phase }, { on := 2, ground := Ground.phase }, { on := 3, ground := Ground.phase }, { on := 4, ground := Ground.phase }, { on := 5, ground := Ground.phase }, { on := 6, ground := Ground.phase }, { on := 7, ground := Ground.phase }, { on := 8, ground := Ground.phase }, { on := 9, ground := Ground.textOnly Departure.lateStores }, { on := 10, ground := Ground.textOnly Departure.lateStores }, { on := 11, ground := Ground.phase }], guard := none }) (v := ?vq21) rfl (by as_aux_lemma => kernel_rfl) (by as_aux_lemma => kernel_rfl) (by as_aux_lemma => kernel_rfl) (fun _ _ _ h => h) (Or.inl ⟨by rfl, ?yq21⟩) (by assumption) ?rq21
        case yq21 => (intro w hSw; (try dsimp only at hSw); go_simp <;> with_reducible rfl)
        simp only [Act.put, List.setIfInBounds_toArray, List.set_cons_zero, List.set_cons_succ]
        refine wpAnyH_ready (rs := [13]) (by as_aux_lemma => kernel_rfl) (by simp) ?_
        refine AllReadyH.cons (o := { dst := none, op := Op.store 31 (Operand.tmp 9) (Operand.tmp 33), type := 0, pos := "law.go:79", after := #[{ on := 11, ground := Ground.data }, { on := 9, ground := Ground.data }, { on := 12, ground := Ground.chain }, { on := 0, ground := Ground.phase }, { on := 1, ground := Ground.phase }, { on := 2, ground := Ground.phase }, { on := 3, ground := Ground.phase }, { on := 4, ground := Ground.phase }, { on := 5, ground := Ground.phase }, { on := 6, ground := Ground.phase }, { on := 7, ground := Ground.phase }, { on := 8, ground := Ground.phase }, { on := 9, ground := Ground.phase }, { on := 10, ground := Ground.textOnly Departure.lateStores }, { on := 11, ground := Ground.phase }, { on := 12, ground := Ground.phase }], guard := none }) rfl (fun K hK => ?_) (by exact AllReadyH.nil)
        rw [if_pos (by rfl)]
        have fx22 := frozen_of_row z16 _ 0 _ _ hbz16
        have cx22 : z16.cell? ⟨gy15, 0, none⟩ = some (.slice none 0 0) := cell_of_row z16 _ 0 _ _ _ hbz16
        go_simp
        have hbx22 := heap_setCell_same z16 gy15 0 _ _ (.slice xz16 mz16 cz16) hbz16
        have hSx22 : PlS W1.heap.size gS W1 r (z16.setCell ⟨gy15, 0, none⟩ (.slice xz16 mz16 cz16)) := ⟨hSz16.1.setCell (p := ⟨gy15, 0, none⟩) hly15 _, hSz16.2.kept (grown_set' (grown_refl _ _) 0 _) (fun e => hny15 (Option.some.inj e))⟩
        have hWx22 := hWz16.set (u := (.slice xz16 mz16 cz16)) hbz16
        obtain ⟨x22, hx22⟩ : ∃ Z, z16.setCell ⟨gy15, 0, none⟩ (.slice xz16 mz16 cz16) = Z := ⟨_, rfl⟩
        rw [hx22] at hbx22 hSx22 hWx22 ⊢
        clear hx22
        refine hK.out _ _ (by (try dsimp only); exact hSx22) (fun hHeld => ?_)
        clear hK K
        simp only [List.setIfInBounds_toArray, List.set_cons_zero, List.set_cons_succ]
        refine wpAnyH_take (i := 14) (oi := { dst := some 10, op := Op.assign (Operand.tmp 34), type := 4, pos := "law.go:79", after := #[{ on := 10, ground := Ground.data }, { on := 13, ground := Ground.chain }, { on := 0, ground := Ground.phase }, { on := 1, ground := Ground.phase }, { on := 2, ground := Ground.phase }, { on := 3, ground := Ground.phase }, { on := 4, ground := Ground.phase }, { on := 5, ground := Ground.phase }, { on := 6, ground := Ground.phase }, { on := 7, ground := Ground.phase }, { on := 8, ground := Ground.phase }, { on := 9, ground := Ground.phase }, { on := 10, ground := Ground.phase }, { on := 11, ground := Ground.phase }, { on := 12, ground := Ground.phase }, { on := 13, ground := Ground.phase }], guard := none }) (v := ?vq23) rfl (by as_aux_lemma => kernel_rfl) (by as_aux_lemma => kernel_rfl) (by as_aux_lemma => kernel_rfl) (fun _ _ _ h => h) (Or.inl ⟨by rfl, ?yq23⟩) (by assumption) ?rq23
        case yq23 => (intro w hSw; (try dsimp only at hSw); go_simp <;> with_reducible rfl)
        simp only [Act.put, List.setIfInBounds_toArray, List.set_cons_zero, List.set_cons_succ]
        refine wpAnyH_done (by as_aux_lemma => kernel_rfl) ?_ _
        clear hHeld
        simp only [noPanic]
        go_wp2_with fail
        go_meet
        exact ⟨(.slice xz16 mz16 cz16), acL L z0 y0 u0, gy15, rfl, rfl, hWx22, by have := ac_len L z0 y0 u0; have := HL.out.1; omega, hSx22.2, hbx22, hny15, hly15, hSx22.1⟩
      case rest =>
        obtain ⟨r2, L2, gT, rfl, rfl, hW, hL2, hbS, hbT, hne, hgT, hbl⟩ := hcut
        obtain ⟨x2, m2, q2, rfl⟩ : ∃ x m c, r2 = .slice x m c := by obtain ⟨x, c, h⟩ := hW.rows.is; exact ⟨x, _, c, h⟩
        have h00 : HelN 1 31 wc gS wc := ⟨grown_refl wc _, _, rfl, hbS⟩
        have h0 : HelN 1 31 wc gS wc.drew := HelN.drew ⟨grown_refl wc _, _, rfl, hbS⟩
        have f2 := fun w' (hw : HelN 1 31 wc gS w') => HelN.frozen hw 0
        have cf := fun w' (hw : HelN 1 31 wc gS w') => HelN.cell hw 0 (by omega)
        have cT : ∀ w', HelN 1 31 wc gS w' → w'.cell? ⟨gT, 0, none⟩ = some (.slice x2 m2 q2) := fun w' (hw : HelN 1 31 wc gS w') => cell_of_row _ _ 0 _ _ _ (HelN.blk hw hbT (Ne.symm hne))
        have HC := Lib.hid (And.intro hW (And.intro hL2 (And.intro hbS (And.intro hne hbl))))
        clear hW hL2 hbS hbT hne hgT hbl HACT HL hS0 hW0 cS cl0 cl1 cl2 cl3 cl4 cl5 cl6 cl7 cl8 cl9 hdl hdl2
        go_upto_region 9 with fail
        go_region_held3 (fun w' => HelN 1 31 wc gS w')
          (first | with_reducible assumption | with_reducible exact HelN.set (by assumption) _ _ | with_reducible exact HelN.drew (HelN.set (by assumption) _ _) | with_reducible exact HelN.drew (by assumption))
          (fail)
        all_goals
          obtain ⟨hW, hL2, hbS, hne, hbl⟩ := HC.out
          obtain ⟨Y, hY⟩ : ∃ Y, (wc.setCell ⟨gS, 0, none⟩ (.slice x2 m2 q2)).drew = Y := ⟨_, rfl⟩
          have hWY : StW W1.heap.size Y u8 (.slice x2 m2 q2) L2 := by rw [← hY]; exact (hW.set hbS).keep (below_drew' (Below.refl _ _))
          have hbY : Blk Y gS 31 #[.slice x2 m2 q2] := by rw [← hY]; exact heap_setCell_same wc gS 0 _ _ _ hbS
          have hblY : Below W1.heap.size W1 Y := by rw [← hY]; exact below_drew' (hbl.setCell (p := ⟨gS, 0, none⟩) HGS.out _)
          have hnK : Blk Y w.heap.size 25 (Wc n) := HA.out.2.2.2.1.keep hblY
          have hn := HA.out.2.2.1
          have hl2 : L2.length ≤ 1000 := by have := HA.out; omega
          rw [hY]
          have e0 : ∀ Z, Below Y.heap.size Y Z → Z.cell? ⟨w.heap.size, 0, none⟩ = some (.int .u64 (lb n 0)) := fun Z h => cell_of_row Z _ 0 _ _ _ (hnK.keep h)
          have e1 : ∀ Z, Below Y.heap.size Y Z → Z.cell? ⟨w.heap.size, 1, none⟩ = some (.int .u64 (lb n 1)) := fun Z h => cell_of_row Z _ 1 _ _ _ (hnK.keep h)
          have e2 : ∀ Z, Below Y.heap.size Y Z → Z.cell? ⟨w.heap.size, 2, none⟩ = some (.int .u64 (lb n 2)) := fun Z h => cell_of_row Z _ 2 _ _ _ (hnK.keep h)
          have e3 : ∀ Z, Below Y.heap.size Y Z → Z.cell? ⟨w.heap.size, 3, none⟩ = some (.int .u64 (lb n 3)) := fun Z h => cell_of_row Z _ 3 _ _ _ (hnK.keep h)
          have eS : ∀ Z, Below Y.heap.size Y Z → Z.cell? ⟨gS, 0, none⟩ = some (.slice x2 m2 q2) := fun Z h => cell_of_row Z _ 0 _ _ _ (hbY.keep h)
          have HIS := Lib.hid (fun Z (hZ : Below Y.heap.size Y Z) kk => is_any W1.heap.size u8 (.slice x2 m2 q2) L2 kk Z (hWY.keep hZ) hl2)
          have HG1 := Lib.hid (fun Z (hZ : Below Y.heap.size Y Z) => (hWY.keep hZ).get n hn)
          have HG2 := Lib.hid (fun Z (hZ : Below Y.heap.size Y Z) => rget_any W1.heap.size (.slice x2 m2 q2) L2 n hn Z (hWY.keep hZ).rows (by omega))
          have HW1' := Lib.hid (fun Z (hZ : Below Y.heap.size Y Z) => (hWY.keep hZ).was n hn)
          have HW2' := Lib.hid (fun Z (hZ : Below Y.heap.size Y Z) => rwas_any W1.heap.size (.slice x2 m2 q2) L2 n hn Z (hWY.keep hZ).rows (by omega))
          have nv1 := fun X => neqVal_R (rowN L2 n).2.1 (rowN L2 n).2.1 (hWY.okN n).1 (hWY.okN n).1 X
          have nv2 := fun X => neqVal_R (rowN L2 n).2.2 (rowN L2 n).2.2 (hWY.okN n).2 (hWY.okN n).2 X
          rw [show (!(decide ((rowN L2 n).2.1 = (rowN L2 n).2.1))) = false by simp] at nv1
          rw [show (!(decide ((rowN L2 n).2.2 = (rowN L2 n).2.2))) = false by simp] at nv2
          generalize (rowN L2 n).2.1 = o1 at *
          generalize (rowN L2 n).2.2 = o2 at *
          have h0 : Below Y.heap.size Y Y.drew := below_drew' (Below.refl _ _)
          have HF := Lib.hid (And.intro hWY (And.intro hbY (And.intro hblY hL2)))
          clear hW hL2 hbS hne hbl hY hWY hbY hblY hnK hn hl2 h00 f2 cf cT HC
          go_upto_region 10 with fail
          go_region_held3 (fun w' => Below Y.heap.size Y w') (first | with_reducible assumption) (first
            | (go_at_call 9; refine (HIS.out _ (by with_reducible assumption) _).mono ?_; rintro e y1 ⟨rfl, hz⟩; have hH1 : Below Y.heap.size Y y1 := rstep hz (by with_reducible assumption); clear hz)
            | (go_at_call 10; refine (HG1.out _ (by with_reducible assumption)).mono ?_; rintro e y2 ⟨rfl, hz⟩; have hH2 : Below Y.heap.size Y y2 := rstep hz (by with_reducible assumption); clear hz)
            | (go_at_call 11; refine (HG2.out _ (by with_reducible assumption)).mono ?_; rintro e y3 ⟨rfl, hz⟩; have hH3 : Below Y.heap.size Y y3 := rstep hz (by with_reducible assumption); clear hz)
            | (go_at_call 12; refine (HW1'.out _ (by with_reducible assumption)).mono ?_; rintro e y4 ⟨rfl, hz⟩; have hH4 : Below Y.heap.size Y y4 := rstep hz (by with_reducible assumption); clear hz)
            | (go_at_call 13; refine (HW2'.out _ (by with_reducible assumption)).mono ?_; rintro e y5 ⟨rfl, hz⟩; have hH5 : Below Y.heap.size Y y5 := rstep hz (by with_reducible assumption); clear hz)
            | fail)
          all_goals
            have g1 : IntKind.i64.wrap ((k : Int) + 1) = ((k + 1 : Nat) : Int) := IntWalk.i64_in _ (by have := HA.out; omega)
            clear e0 e1 e2 e3 eS HIS HG1 HG2 HW1' HW2' nv1 nv2 h0 hH1 hH2 hH3 hH4
            go_wp2_with fail
            go_roundw
            case rel => exact ⟨k + 1, by omega, rfl, _, L2, HF.out.1.keep hH5, HF.out.2.1.keep hH5, HF.out.2.2.2, HF.out.2.2.1.trans (hH5.mono HF.out.2.2.1.size)⟩
            case measure => simp [intOf]; omega
    · have hkN : k = N := by omega
      have hge : ¬ (k : Int) < (N : Int) := by omega
      have HE := Lib.hid (And.intro hst (And.intro hbS (And.intro hLk (And.intro hbl hk))))
      clear hst hbS hLk hbl hlt hk hkN
      rcases Nat.mod_two_eq_zero_or_one N with hpar | hpar
      · have hmI : ((N : Int) % 2) = 0 := by omega
        have hmT : (Int.tmod (N : Int) 2) = 0 := by rw [Int.tmod_eq_emod_of_nonneg (by omega)]; omega
        clear hpar
        go_upto_region 15 with fail
        have hNS : NoS wr (.pointer none) := .inl rfl
        have hbZ : Below wr.heap.size wr wr := Below.refl _ _
        have HZ0 := Lib.hid (And.intro hNS hbZ)
        clear hNS hbZ
        go_upto_region 16 with (first
          | (go_at_call 14; refine (sall_none _ _ HZ0.out.1).mono ?_; rintro e z3 ⟨gk, gm, rfl, hA, _, _, hb⟩; have H3 := Lib.hid (And.intro hA hb); clear hA hb)
          | fail)
        have hnil : ∀ (p q : Value) w, (binOp .eql 46 (.func (.func 32) #[] #[p, q]) .nilFunc).run Try.prog w = .ok (.bool false) w := fun _ _ _ => by kernel_rfl
        go_upto_region 18 with fail
        go_wp2_with fail
        refine (wpIn_wide (n := 20)).1 ?_
        refine wpIn_rangeV (n := 20) (by omega) (gf := 32) (lb := #[.pointer (some ⟨gk, 0, none⟩), .pointer (some ⟨gm, 0, none⟩)]) rfl enters_all
          (allN_seq (20 - 1) gk gm z3.heap.size z3 H3.out.1) (Below.refl _ _) (Nat.le_refl _) (fun k h => h.elim) (fun _ => rfl)
          (fun _ X => Below z3.heap.size z3 X) (fun _ _ _ => False)
          (fun pre X Y row h hw hr => h.grown hw h.size (fun x e => by rcases hr x e with h | h | h; exact h.elim; omega; omega))
          (fun _ _ _ _ _ h _ _ => h.elim) (fun pre X h => trivial) (Below.refl _ _)
          (fun _ _ _ => True) (fun _ _ _ _ _ _ _ _ _ => trivial)
          ?assign1 ?body1 ?done1 ?stop1
        case assign1 => intro _ _ _ _ _ h; exact h.elim
        case body1 => intro _ _ _ _ _ _ h; exact h.elim
        case stop1 => intro _ _ _ _ _ _ h; exact h.elim
        case done1 =>
          rintro Dd xs X1 hD rfl hI hK
          obtain ⟨p11, hp11⟩ : ∃ p, Value.pointer none = p := ⟨_, rfl⟩
          have hbX : Below wr.heap.size wr X1 := bstep (bstep HZ0.out.2 H3.out.2) hI
          have hNX : NoS X1 p11 := by rw [← hp11]; exact (HZ0.out.1.keep H3.out.2).keep hI
          have hWX := HE.out.1.keep hbX
          have hblX : Below W1.heap.size W1 X1 := HE.out.2.2.2.1.trans (hbX.mono HE.out.2.2.2.1.size)
          have hnK : Blk X1 w.heap.size 25 (Wc n) := HA.out.2.2.2.1.keep hblX
          have hnV : Blk X1 (w.heap.size + 1) 4 #[.bool false] := HA.out.2.2.2.2.1.keep hblX
          have hn := HA.out.2.2.1
          have e0 : ∀ Z, Below X1.heap.size X1 Z → Z.cell? ⟨w.heap.size, 0, none⟩ = some (.int .u64 (lb n 0)) := fun Z h => cell_of_row Z _ 0 _ _ _ (hnK.keep h)
          have e1 : ∀ Z, Below X1.heap.size X1 Z → Z.cell? ⟨w.heap.size, 1, none⟩ = some (.int .u64 (lb n 1)) := fun Z h => cell_of_row Z _ 1 _ _ _ (hnK.keep h)
          have e2 : ∀ Z, Below X1.heap.size X1 Z → Z.cell? ⟨w.heap.size, 2, none⟩ = some (.int .u64 (lb n 2)) := fun Z h => cell_of_row Z _ 2 _ _ _ (hnK.keep h)
          have e3 : ∀ Z, Below X1.heap.size X1 Z → Z.cell? ⟨w.heap.size, 3, none⟩ = some (.int .u64 (lb n 3)) := fun Z h => cell_of_row Z _ 3 _ _ _ (hnK.keep h)
          have h0 : Below X1.heap.size X1 X1 := Below.refl _ _
          have HPU := Lib.hid (fun Z (hZ : Below X1.heap.size X1 Z) => (by have h := put_none p11 n (0, 0) Z (hNX.keep hZ); rw [vP0] at h; exact h : Calls Try.prog 16 #[p11, W n, .agg #[.int .u64 0, .int .u64 0, .int .u64 0, .int .u64 0, .int .u64 0]] Z fun e w' => e = .returned (.int .i64 1) ∧ Below Z.heap.size Z w'))
          have HSE := Lib.hid (fun Z (hZ : Below X1.heap.size X1 Z) => settle_none p11 Z (hNX.keep hZ))
          have HGE := Lib.hid (fun Z (hZ : Below X1.heap.size X1 Z) => (by have h := get_none p11 n Z (hNX.keep hZ); rw [vP0] at h; exact h : Calls Try.prog 10 #[p11, W n] Z fun e w' => e = .returned (.agg #[.int .u64 0, .int .u64 0, .int .u64 0, .int .u64 0, .int .u64 0]) ∧ Below Z.heap.size Z w'))
          have HWA := Lib.hid (fun Z (hZ : Below X1.heap.size X1 Z) => (by have h := was_none p11 n Z (hNX.keep hZ); rw [vP0] at h; exact h : Calls Try.prog 12 #[p11, W n] Z fun e w' => e = .returned (.agg #[.int .u64 0, .int .u64 0, .int .u64 0, .int .u64 0, .int .u64 0]) ∧ Below Z.heap.size Z w'))
          have HLN := Lib.hid (fun Z (hZ : Below X1.heap.size X1 Z) => len_none p11 Z (hNX.keep hZ))
          have HCO := Lib.hid (fun Z (hZ : Below X1.heap.size X1 Z) => copy_none p11 Z (hNX.keep hZ))
          have HAL := Lib.hid (fun Z (hZ : Below X1.heap.size X1 Z) => (by exact alike_none2 p11 (.pointer none) 0 Z (hNX.keep hZ) (.inl rfl) : Calls Try.prog 20 #[p11, .pointer none, .int .u64 0] Z fun e w' => e = .returned (.bool true) ∧ Z = w'))
          obtain ⟨g5, bv5, bw5, many5, fv5, fw5, rfl, hs5⟩ := hWX.ptr
          have HAM := Lib.hid (fun Z (hZ : Below X1.heap.size X1 Z) => (by exact alike_none1 (.pointer (some ⟨g5, 0, none⟩)) p11 0 Z g5 _ _ _ rfl (hs5.1.keep hZ) (hNX.keep hZ) : Calls Try.prog 20 #[.pointer (some ⟨g5, 0, none⟩), p11, .int .u64 0] Z fun e w' => e = .returned (.bool false) ∧ Z = w'))
          have hzz : ∀ X, (binOp .eql 36 (.agg #[.int .u64 0, .int .u64 0, .int .u64 0, .int .u64 0, .int .u64 0]) (.agg #[.int .u64 0, .int .u64 0, .int .u64 0, .int .u64 0, .int .u64 0])).run Try.prog X = .ok (.bool true) X := fun X => by have h := eqVal_any (0, 0) (0, 0) okP0 okP0 X; rw [vP0] at h; exact h
          have hDn : w.heap.size + 2 ≤ Dd := by have h1 := HA.out.2.2.2.2.2.2; have h2 := HE.out.2.2.2.1.size; have h3 := HZ0.out.2.size; have h4 := H3.out.2.size; omega
          have HF := Lib.hid (And.intro hnV (And.intro hblX (And.intro hK hDn)))
          have HP := Lib.hid hp11
          rw [hp11]
          clear hbX hNX hWX hblX hnK hnV hn hI hK hD hDn HZ0 H3 HE hs5 hnil hp11
          go_wp2_with (first
            | (go_at_call 16; refine (HPU.out _ (by with_reducible assumption)).mono ?_; rintro e y1 ⟨rfl, hz⟩; have hH1 : Below X1.heap.size X1 y1 := rstep hz (by with_reducible assumption); clear hz)
            | (go_at_call 15; refine (snum_any _ _).mono ?_; rintro e w6 ⟨rfl, rfl⟩)
            | (go_at_call 17; refine (HSE.out _ (by with_reducible assumption)).mono ?_; rintro e y2 ⟨rfl, rfl⟩)
            | (go_at_call 10; refine (HGE.out _ (by with_reducible assumption)).mono ?_; rintro e y3 ⟨rfl, hz⟩; have hH3 : Below X1.heap.size X1 y3 := rstep hz (by with_reducible assumption); clear hz)
            | (go_at_call 12; refine (HWA.out _ (by with_reducible assumption)).mono ?_; rintro e y4 ⟨rfl, hz⟩; have hH4 : Below X1.heap.size X1 y4 := rstep hz (by with_reducible assumption); clear hz)
            | (go_at_call 18; refine (HLN.out _ (by with_reducible assumption)).mono ?_; rintro e y5 ⟨rfl, rfl⟩)
            | (go_at_call 19; refine (HCO.out _ (by with_reducible assumption)).mono ?_; rintro e y6 ⟨rfl, rfl⟩)
            | (go_at_call 20; with_reducible refine (HAL.out y4 hH4).mono ?_; rintro e y7 ⟨rfl, rfl⟩)
            | (go_at_call 20; with_reducible refine (HAM.out y4 hH4).mono ?_; rintro e y8 ⟨rfl, rfl⟩)
            | (go_at_call 6; refine (sworks_any _).mono ?_; rintro e wz ⟨rfl, hz⟩; have hZ : Below X1.heap.size X1 wz := rstep hz (by with_reducible assumption); have hR := HF.out.1.keep hZ; have f0 := frozen_of_row _ _ 0 _ _ hR; have d0 : wz.cell? ⟨w.heap.size + 1, 0, none⟩ = some (.bool false) := cell_of_row _ _ 0 _ _ _ hR; have HZ := Lib.hid (And.intro hR hZ); clear hz hR hZ)
            | fail)
          obtain ⟨_, hblX, hK, hDn⟩ := HF.out
          obtain ⟨hR, hZ⟩ := HZ.out
          have hdY : (wz.setCell ⟨w.heap.size + 1, 0, none⟩ (.bool true)).heap[Dd]? = some (.deferred (some [])) := (Below.heap_setCell wz ⟨w.heap.size + 1, 0, none⟩ _ Dd (by simp; omega)).trans ((hZ.block Dd (Array.getElem?_eq_some_iff.1 hK).1).trans hK)
          have bY : Blk (wz.setCell ⟨w.heap.size + 1, 0, none⟩ (.bool true)) (w.heap.size + 1) 4 #[.bool true] := heap_setCell_same wz _ 0 _ _ _ hR
          have hBY : Below w.heap.size w (wz.setCell ⟨w.heap.size + 1, 0, none⟩ (.bool true)) := (bstep (bstep HA.out.2.2.2.2.2.1 hblX) hZ).setCell (p := ⟨w.heap.size + 1, 0, none⟩) (by simp) _
          obtain ⟨Y9, hY9⟩ : ∃ Y9, wz.setCell ⟨w.heap.size + 1, 0, none⟩ (.bool true) = Y9 := ⟨_, rfl⟩
          rw [hY9] at hdY bY hBY ⊢
          have bY2 : Blk (Y9.putObj Dd (.deferred none)) (w.heap.size + 1) 4 #[.bool true] := bY.kept (grownBy_putObj' Y9 Dd _) (by intro e; injection e with e; omega)
          have r0 := cell_of_row _ _ 0 _ _ _ bY2
          refine ⟨by simp, .inl ⟨_, _, rfl, run_takeDeferred hdY, ?_⟩⟩
          exact ⟨.bool true, by simp [results, Try.results3, go_sem, r0], rfl, hBY.trans (below_put Y9 _ (by omega))⟩
      · have hmI : ((N : Int) % 2) = 1 := by omega
        have hmT : (Int.tmod (N : Int) 2) = 1 := by rw [Int.tmod_eq_emod_of_nonneg (by omega)]; omega
        clear hpar
        go_upto_region 15 with fail
        obtain ⟨Z0, hZ0⟩ : ∃ Z, wr.alloc (.cells #[.map none, .map none, .int .i64 0] 44) = Z := ⟨_, rfl⟩
        have hNS : NoS Z0 (.pointer (some ⟨wr.heap.size, 0, none⟩)) := .inr ⟨_, _, _, rfl, by rw [← hZ0]; exact Blk.new _ _ _⟩
        have hbZ : Below wr.heap.size wr Z0 := by rw [← hZ0]; exact balloc (Below.refl _ _) _
        rw [hZ0]
        clear hZ0
        have HZ0 := Lib.hid (And.intro hNS hbZ)
        clear hNS hbZ
        go_upto_region 16 with (first
          | (go_at_call 14; refine (sall_none _ _ HZ0.out.1).mono ?_; rintro e z3 ⟨gk, gm, rfl, hA, _, _, hb⟩; have H3 := Lib.hid (And.intro hA hb); clear hA hb)
          | fail)
        have hnil : ∀ (p q : Value) w, (binOp .eql 46 (.func (.func 32) #[] #[p, q]) .nilFunc).run Try.prog w = .ok (.bool false) w := fun _ _ _ => by kernel_rfl
        go_upto_region 18 with fail
        go_wp2_with fail
        refine (wpIn_wide (n := 20)).1 ?_
        refine wpIn_rangeV (n := 20) (by omega) (gf := 32) (lb := #[.pointer (some ⟨gk, 0, none⟩), .pointer (some ⟨gm, 0, none⟩)]) rfl enters_all
          (allN_seq (20 - 1) gk gm z3.heap.size z3 H3.out.1) (Below.refl _ _) (Nat.le_refl _) (fun k h => h.elim) (fun _ => rfl)
          (fun _ X => Below z3.heap.size z3 X) (fun _ _ _ => False)
          (fun pre X Y row h hw hr => h.grown hw h.size (fun x e => by rcases hr x e with h | h | h; exact h.elim; omega; omega))
          (fun _ _ _ _ _ h _ _ => h.elim) (fun pre X h => trivial) (Below.refl _ _)
          (fun _ _ _ => True) (fun _ _ _ _ _ _ _ _ _ => trivial)
          ?assign2 ?body2 ?done2 ?stop2
        case assign2 => intro _ _ _ _ _ h; exact h.elim
        case body2 => intro _ _ _ _ _ _ h; exact h.elim
        case stop2 => intro _ _ _ _ _ _ h; exact h.elim
        case done2 =>
          rintro Dd xs X1 hD rfl hI hK
          obtain ⟨p11, hp11⟩ : ∃ p, Value.pointer (some ⟨wr.heap.size, 0, none⟩) = p := ⟨_, rfl⟩
          have hbX : Below wr.heap.size wr X1 := bstep (bstep HZ0.out.2 H3.out.2) hI
          have hNX : NoS X1 p11 := by rw [← hp11]; exact (HZ0.out.1.keep H3.out.2).keep hI
          have hWX := HE.out.1.keep hbX
          have hblX : Below W1.heap.size W1 X1 := HE.out.2.2.2.1.trans (hbX.mono HE.out.2.2.2.1.size)
          have hnK : Blk X1 w.heap.size 25 (Wc n) := HA.out.2.2.2.1.keep hblX
          have hnV : Blk X1 (w.heap.size + 1) 4 #[.bool false] := HA.out.2.2.2.2.1.keep hblX
          have hn := HA.out.2.2.1
          have e0 : ∀ Z, Below X1.heap.size X1 Z → Z.cell? ⟨w.heap.size, 0, none⟩ = some (.int .u64 (lb n 0)) := fun Z h => cell_of_row Z _ 0 _ _ _ (hnK.keep h)
          have e1 : ∀ Z, Below X1.heap.size X1 Z → Z.cell? ⟨w.heap.size, 1, none⟩ = some (.int .u64 (lb n 1)) := fun Z h => cell_of_row Z _ 1 _ _ _ (hnK.keep h)
          have e2 : ∀ Z, Below X1.heap.size X1 Z → Z.cell? ⟨w.heap.size, 2, none⟩ = some (.int .u64 (lb n 2)) := fun Z h => cell_of_row Z _ 2 _ _ _ (hnK.keep h)
          have e3 : ∀ Z, Below X1.heap.size X1 Z → Z.cell? ⟨w.heap.size, 3, none⟩ = some (.int .u64 (lb n 3)) := fun Z h => cell_of_row Z _ 3 _ _ _ (hnK.keep h)
          have h0 : Below X1.heap.size X1 X1 := Below.refl _ _
          have HPU := Lib.hid (fun Z (hZ : Below X1.heap.size X1 Z) => (by have h := put_none p11 n (0, 0) Z (hNX.keep hZ); rw [vP0] at h; exact h : Calls Try.prog 16 #[p11, W n, .agg #[.int .u64 0, .int .u64 0, .int .u64 0, .int .u64 0, .int .u64 0]] Z fun e w' => e = .returned (.int .i64 1) ∧ Below Z.heap.size Z w'))
          have HSE := Lib.hid (fun Z (hZ : Below X1.heap.size X1 Z) => settle_none p11 Z (hNX.keep hZ))
          have HGE := Lib.hid (fun Z (hZ : Below X1.heap.size X1 Z) => (by have h := get_none p11 n Z (hNX.keep hZ); rw [vP0] at h; exact h : Calls Try.prog 10 #[p11, W n] Z fun e w' => e = .returned (.agg #[.int .u64 0, .int .u64 0, .int .u64 0, .int .u64 0, .int .u64 0]) ∧ Below Z.heap.size Z w'))
          have HWA := Lib.hid (fun Z (hZ : Below X1.heap.size X1 Z) => (by have h := was_none p11 n Z (hNX.keep hZ); rw [vP0] at h; exact h : Calls Try.prog 12 #[p11, W n] Z fun e w' => e = .returned (.agg #[.int .u64 0, .int .u64 0, .int .u64 0, .int .u64 0, .int .u64 0]) ∧ Below Z.heap.size Z w'))
          have HLN := Lib.hid (fun Z (hZ : Below X1.heap.size X1 Z) => len_none p11 Z (hNX.keep hZ))
          have HCO := Lib.hid (fun Z (hZ : Below X1.heap.size X1 Z) => copy_none p11 Z (hNX.keep hZ))
          have HAL := Lib.hid (fun Z (hZ : Below X1.heap.size X1 Z) => (by exact alike_none2 p11 (.pointer none) 0 Z (hNX.keep hZ) (.inl rfl) : Calls Try.prog 20 #[p11, .pointer none, .int .u64 0] Z fun e w' => e = .returned (.bool true) ∧ Z = w'))
          obtain ⟨g5, bv5, bw5, many5, fv5, fw5, rfl, hs5⟩ := hWX.ptr
          have HAM := Lib.hid (fun Z (hZ : Below X1.heap.size X1 Z) => (by exact alike_none1 (.pointer (some ⟨g5, 0, none⟩)) p11 0 Z g5 _ _ _ rfl (hs5.1.keep hZ) (hNX.keep hZ) : Calls Try.prog 20 #[.pointer (some ⟨g5, 0, none⟩), p11, .int .u64 0] Z fun e w' => e = .returned (.bool false) ∧ Z = w'))
          have hzz : ∀ X, (binOp .eql 36 (.agg #[.int .u64 0, .int .u64 0, .int .u64 0, .int .u64 0, .int .u64 0]) (.agg #[.int .u64 0, .int .u64 0, .int .u64 0, .int .u64 0, .int .u64 0])).run Try.prog X = .ok (.bool true) X := fun X => by have h := eqVal_any (0, 0) (0, 0) okP0 okP0 X; rw [vP0] at h; exact h
          have hDn : w.heap.size + 2 ≤ Dd := by have h1 := HA.out.2.2.2.2.2.2; have h2 := HE.out.2.2.2.1.size; have h3 := HZ0.out.2.size; have h4 := H3.out.2.size; omega
          have HF := Lib.hid (And.intro hnV (And.intro hblX (And.intro hK hDn)))
          have HP := Lib.hid hp11
          rw [hp11]
          clear hbX hNX hWX hblX hnK hnV hn hI hK hD hDn HZ0 H3 HE hs5 hnil hp11
          go_wp2_with (first
            | (go_at_call 16; refine (HPU.out _ (by with_reducible assumption)).mono ?_; rintro e y1 ⟨rfl, hz⟩; have hH1 : Below X1.heap.size X1 y1 := rstep hz (by with_reducible assumption); clear hz)
            | (go_at_call 15; refine (snum_any _ _).mono ?_; rintro e w6 ⟨rfl, rfl⟩)
            | (go_at_call 17; refine (HSE.out _ (by with_reducible assumption)).mono ?_; rintro e y2 ⟨rfl, rfl⟩)
            | (go_at_call 10; refine (HGE.out _ (by with_reducible assumption)).mono ?_; rintro e y3 ⟨rfl, hz⟩; have hH3 : Below X1.heap.size X1 y3 := rstep hz (by with_reducible assumption); clear hz)
            | (go_at_call 12; refine (HWA.out _ (by with_reducible assumption)).mono ?_; rintro e y4 ⟨rfl, hz⟩; have hH4 : Below X1.heap.size X1 y4 := rstep hz (by with_reducible assumption); clear hz)
            | (go_at_call 18; refine (HLN.out _ (by with_reducible assumption)).mono ?_; rintro e y5 ⟨rfl, rfl⟩)
            | (go_at_call 19; refine (HCO.out _ (by with_reducible assumption)).mono ?_; rintro e y6 ⟨rfl, rfl⟩)
            | (go_at_call 20; with_reducible refine (HAL.out y4 hH4).mono ?_; rintro e y7 ⟨rfl, rfl⟩)
            | (go_at_call 20; with_reducible refine (HAM.out y4 hH4).mono ?_; rintro e y8 ⟨rfl, rfl⟩)
            | (go_at_call 6; refine (sworks_any _).mono ?_; rintro e wz ⟨rfl, hz⟩; have hZ : Below X1.heap.size X1 wz := rstep hz (by with_reducible assumption); have hR := HF.out.1.keep hZ; have f0 := frozen_of_row _ _ 0 _ _ hR; have d0 : wz.cell? ⟨w.heap.size + 1, 0, none⟩ = some (.bool false) := cell_of_row _ _ 0 _ _ _ hR; have HZ := Lib.hid (And.intro hR hZ); clear hz hR hZ)
            | fail)
          obtain ⟨_, hblX, hK, hDn⟩ := HF.out
          obtain ⟨hR, hZ⟩ := HZ.out
          have hdY : (wz.setCell ⟨w.heap.size + 1, 0, none⟩ (.bool true)).heap[Dd]? = some (.deferred (some [])) := (Below.heap_setCell wz ⟨w.heap.size + 1, 0, none⟩ _ Dd (by simp; omega)).trans ((hZ.block Dd (Array.getElem?_eq_some_iff.1 hK).1).trans hK)
          have bY : Blk (wz.setCell ⟨w.heap.size + 1, 0, none⟩ (.bool true)) (w.heap.size + 1) 4 #[.bool true] := heap_setCell_same wz _ 0 _ _ _ hR
          have hBY : Below w.heap.size w (wz.setCell ⟨w.heap.size + 1, 0, none⟩ (.bool true)) := (bstep (bstep HA.out.2.2.2.2.2.1 hblX) hZ).setCell (p := ⟨w.heap.size + 1, 0, none⟩) (by simp) _
          obtain ⟨Y9, hY9⟩ : ∃ Y9, wz.setCell ⟨w.heap.size + 1, 0, none⟩ (.bool true) = Y9 := ⟨_, rfl⟩
          rw [hY9] at hdY bY hBY ⊢
          have bY2 : Blk (Y9.putObj Dd (.deferred none)) (w.heap.size + 1) 4 #[.bool true] := bY.kept (grownBy_putObj' Y9 Dd _) (by intro e; injection e with e; omega)
          have r0 := cell_of_row _ _ 0 _ _ _ bY2
          refine ⟨by simp, .inl ⟨_, _, rfl, run_takeDeferred hdY, ?_⟩⟩
          exact ⟨.bool true, by simp [results, Try.results3, go_sem, r0], rfl, hBY.trans (below_put Y9 _ (by omega))⟩
end Go.Proofs.Ytcfnhilcpfiocaa
