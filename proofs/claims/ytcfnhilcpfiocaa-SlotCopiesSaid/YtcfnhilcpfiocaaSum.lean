/- slot: SlotCopies' walk. -/
import Derived.Test.YtcfnhilcpfiocaaSuk
import Derived.Test.YtcfnhilcpfiocaaSul
namespace Go.Proofs.Ytcfnhilcpfiocaa
open Go.RowKit Go.Shelf Go.ChangeMaps Go.MapKept
attribute [local go_sem] Oper.semAt_some
/-- Two acts as they lie. -/
abbrev twC (a b : Int × Nat × Nat × Nat) : Array Value := #[.int .i64 a.1, .int .u64 (lb a.2.1 0), .int .u64 (lb a.2.1 1), .int .u64 (lb a.2.1 2), .int .u64 (lb a.2.1 3), .int .u64 (lb a.2.2.1 0), .int .u64 (lb a.2.2.1 1), .int .u64 (lb a.2.2.1 2), .int .u64 (lb a.2.2.1 3), .int .u64 (a.2.2.2 : Nat), .int .i64 b.1, .int .u64 (lb b.2.1 0), .int .u64 (lb b.2.1 1), .int .u64 (lb b.2.1 2), .int .u64 (lb b.2.1 3), .int .u64 (lb b.2.2.1 0), .int .u64 (lb b.2.2.1 1), .int .u64 (lb b.2.2.1 2), .int .u64 (lb b.2.2.1 3), .int .u64 (b.2.2.2 : Nat)]
theorem StG.keep {D : Nat} {X Y : World} {g bv bw : Nat} {p r : Value} {l : List Rw} (h : StG D X g bv bw p r l) (hb : Below X.heap.size X Y) : StG D Y g bv bw p r l := by
  obtain ⟨many, fv, fw, e, hs, ho, h1⟩ := h
  exact ⟨many, fv, fw, e, hs.keep hb, ho.keep hb, h1⟩
/-- An act on one storage leaves another one alone. -/
theorem StG.other {D : Nat} {X Y : World} {g bv bw g2 bv2 bw2 : Nat} {p r p2 r2 : Value} {l l2 : List Rw} (h : StG D X g bv bw p r l) (k : StG D X g2 bv2 bw2 p2 r2 l2) (hc : Chg (fun k => k = g ∨ k = bv) X Y) (n1 : g2 ≠ g) (n2 : bv2 ≠ bv) (n3 : bw2 ≠ bv) : StG D Y g2 bv2 bw2 p2 r2 l2 := by
  obtain ⟨_, fv, fw, e, hs, ho, _⟩ := h
  obtain ⟨many2, fv2, fw2, e2, hs2, ho2, h2⟩ := k
  have a1 := blk_ne_map hs2.1 hs.2.1
  have a2 := blk_ne_map hs.1 hs2.2.1
  have a3 := blk_ne_map hs.1 hs2.2.2.1
  exact ⟨many2, fv2, fw2, e2, hs2.chg hc (fun h => h.elim n1 a1) (fun h => h.elim (Ne.symm a2) n2) (fun h => h.elim (Ne.symm a3) n3), ho2.chg hs.1 hs.2.1 hc, h2⟩
theorem StG.own {D : Nat} {X : World} {g bv bw : Nat} {p r : Value} {l : List Rw} (h : StG D X g bv bw p r l) : OwR X D r l := by
  obtain ⟨_, fv, fw, e, hs, ho, _⟩ := h
  exact ho
theorem StG.rows {D : Nat} {X Y : World} {g bv bw b : Nat} {p r u : Value} {l l2 : List Rw} (h : StG D X g bv bw p r l) (ho : OwR X b u l2) (hc : Chg (fun k => k = g ∨ k = bv) X Y) : OwR Y b u l2 := by
  obtain ⟨_, fv, fw, e, hs, _⟩ := h
  exact ho.chg hs.1 hs.2.1 hc
theorem StG.box {D : Nat} {X Y : World} {g bv bw b : Nat} {p r : Value} {l : List Rw} {cs : Array Value} (h : StG D X g bv bw p r l) (hb : Blk X b 31 cs) (hc : Chg (fun k => k = g ∨ k = bv) X Y) : Blk Y b 31 cs := by
  obtain ⟨_, fv, fw, e, hs, _⟩ := h
  exact hs.box hb hc (fun k hk => hk.elim .inl (fun e => .inr (.inl e)))
section
variable {H : Type} {enc : TypeId × Value → H} {X : World} {base : Nat} {sp : Nat → Bool} {held : Bool}
set_option maxRecDepth 100000 in
theorem arg_lab {r : Reach} {b0 : Nat} {v : Value} {d : DataW H} {p : List MemPlace} (hv : Value.okWide Try.prog X r b0 34 v) (h : DataW.Trod enc Try.prog X base sp held 34 v d p) : ∃ q : Nat, q < 18446744073709551616 ∧ v = .int .u64 (q : Nat) := by
  obtain ⟨z, rfl⟩ := WideShapes.okWide_int (k := .u64) (by kernel_rfl) hv
  obtain ⟨fuel, hf⟩ := h
  obtain ⟨q, hq, e⟩ := label_open hf
  simp [Value.cells] at e
  exact ⟨q, hq, by rw [e]⟩
set_option maxRecDepth 100000 in
theorem arg_two {r : Reach} {b0 : Nat} {v : Value} {d : DataW H} {p : List MemPlace} (hv : Value.okWide Try.prog X r b0 55 v) (h : DataW.Trod enc Try.prog X base sp held 55 v d p) : ∃ a b, okA a ∧ okA b ∧ v = .agg (twC a b) := by
  have hu : Try.prog.underlying 55 = some (.array 2 38) := by kernel_rfl
  have hc : Try.prog.cellsOf 55 = 20 := by kernel_rfl
  simp only [Value.okWide, hu] at hv
  obtain ⟨cs, rfl, h2, _⟩ := hv
  rw [hc] at h2
  obtain ⟨fuel, hf⟩ := h
  obtain ⟨xs, m, _, _, hl, hx, hg⟩ := DataW.trod_array hu hf
  rw [cofAc] at hg
  have e0 := hg 0 (by omega)
  have e1 := hg 1 (by omega)
  rw [List.getElem?_eq_getElem (by omega)] at e0 e1
  obtain ⟨a, ha, q0⟩ := act_open e0
  obtain ⟨b, hb, q1⟩ := act_open e1
  refine ⟨a, b, ha, hb, ?_⟩
  simp only [Value.cells, Nat.zero_mul, Nat.one_mul, List.drop_zero] at q0 q1
  rw [List.take_of_length_le (i := 10) (by rw [List.length_drop]; simp [h2])] at q1
  have q : cs.toList = acC a ++ acC b := by rw [← q0, ← q1, List.take_append_drop]
  have : cs = twC a b := Array.toList_inj.1 (by rw [q]; rfl)
  rw [this]
end
theorem alR_comm (a b : List Rw) (up : Nat) : alR a b up = alR b a up := by unfold alR; rw [Bool.and_comm]
theorem okQ_eq {fv fw hv hw : Nat → Option (Nat × Nat)} {a b : List Rw} (ha : Rel fv fw a) (hb : Rel hv hw b) (up : Nat) {r : Rw} (h : r ∈ a) : okQ b up r = kyB fv fw hv hw up r.1 := by
  have h1 := ha.2.2.1 r.1
  rw [rowN_Q, rowQ_of_mem ha.1 h] at h1
  have e1 : r.2.1 = lk2 fv fw r.1 := congrArg (fun x : Rw => x.2.1) h1
  have e2 : r.2.2 = lk fw r.1 := congrArg (fun x : Rw => x.2.2) h1
  unfold okQ kyB
  rw [hb.2.2.1 r.1, e1, e2]
theorem alR_iff {fv fw hv hw : Nat → Option (Nat × Nat)} {a b : List Rw} (ha : Rel fv fw a) (hb : Rel hv hw b) (up : Nat) : alR a b up = true ↔ AlS fv fw hv hw up := by
  have e : alR a b up = (a.all (okQ b up) && b.all (okQ a up)) := rfl
  rw [e, Bool.and_eq_true, List.all_eq_true, List.all_eq_true]
  constructor
  · rintro ⟨h1, h2⟩ x
    have ra := ha.2.2.1 x
    have rb := hb.2.2.1 x
    rw [rowN_Q] at ra rb
    cases hx : rowQ a x with
    | some r =>
      obtain ⟨m, rfl⟩ := rowQ_mem hx
      rw [← okQ_eq ha hb up m]; exact h1 r m
    | none =>
      cases hy : rowQ b x with
      | some r =>
        obtain ⟨m, rfl⟩ := rowQ_mem hy
        rw [kyB_comm, ← okQ_eq hb ha up m]; exact h2 r m
      | none =>
        rw [hx] at ra
        rw [hy] at rb
        have a1 : (0, 0) = lk2 fv fw x := congrArg (fun x : Rw => x.2.1) ra
        have a2 : (0, 0) = lk fw x := congrArg (fun x : Rw => x.2.2) ra
        have b1 : (0, 0) = lk2 hv hw x := congrArg (fun x : Rw => x.2.1) rb
        have b2 : (0, 0) = lk hw x := congrArg (fun x : Rw => x.2.2) rb
        unfold kyB
        rw [← a1, ← a2, ← b1, ← b2, smP_refl]; rfl
  · intro h
    exact ⟨fun r m => by rw [okQ_eq ha hb up m]; exact h _, fun r m => by rw [okQ_eq hb ha up m, kyB_comm]; exact h _⟩
theorem StW.alike {D : Nat} {X : World} {p r p2 r2 : Value} {l l2 : List Rw} (h : StW D X p r l) (k : StW D X p2 r2 l2) (up : Nat) (hup : up < 2 ^ 64) : Calls Try.prog 20 #[p, p2, .int .u64 (up : Nat)] X fun e w' => e = .returned (.bool (alR l l2 up)) ∧ Below X.heap.size X w' := by
  obtain ⟨g, bv, bw, many, fv, fw, rfl, hs, ho, hr, h1⟩ := h
  obtain ⟨g2, bv2, bw2, many2, fv2, fw2, rfl, hs2, ho2, hr2, h2⟩ := k
  refine (salike_any g bv bw many g2 bv2 bw2 many2 up fv fw fv2 fw2 hup X hs hs2).mono ?_
  rintro e w' ⟨t, rfl, ht, hb⟩
  refine ⟨?_, hb⟩
  have := alR_iff hr hr2 up
  rw [show t = alR l l2 up from Bool.eq_iff_iff.2 (ht.trans this.symm)]
/-- What stands in the boxes while All is gone over. -/
def CoB (h gL gN : Nat) (vL : Value) (lA : List Rw) (w : World) (m : Nat) (X : World) : Prop :=
  (Blk X (h + 1) 4 #[.bool false] ∧ Blk X gL 29 #[vL] ∧ Blk X gN 3 #[.int .i64 (m : Nat)]) ∧ RwS gN X vL lA ∧ Below h w X
theorem CoB.kept {h gL gN r0 m : Nat} {vL : Value} {lA : List Rw} {w X Y : World} {row : Option Nat} (hi : CoB h gL gN vL lA w m X) (hg : X.grownBy Y row) (h1 : h + 1 < r0 ∧ gL < r0 ∧ gN < r0) (hs : h ≤ w.heap.size) (hr : ∀ x, row = some x → r0 ≤ x) : CoB h gL gN vL lA w m Y := by
  obtain ⟨⟨a0, a1, a2⟩, a3, a4⟩ := hi
  have hk : ∀ i, i < r0 → i < X.heap.size → Y.heap[i]? = X.heap[i]? := fun i hi hx => hg.block i hx (fun e => by have := hr i e.symm; omega)
  exact ⟨⟨(hk _ (by omega) a0.lt).trans a0, (hk _ (by omega) a1.lt).trans a1, (hk _ (by omega) a2.lt).trans a2⟩, a3.kept hg.size (fun b hb hx => hk b (by omega) hx), a4.grown hg (Nat.le_trans hs a4.size) (fun x e => by have := hr x e; omega)⟩
theorem CoB.count {h gL gN m : Nat} {vL : Value} {lA : List Rw} {w X : World} (hi : CoB h gL gN vL lA w m X) (h1 : h + 1 < gN ∧ gL < gN) (hs : h ≤ w.heap.size) :
    CoB h gL gN vL lA w (m + 1) (X.setCell ⟨gN, 0, none⟩ (.int .i64 ((m : Int) + 1))) := by
  obtain ⟨⟨a0, a1, a2⟩, a3, a4⟩ := hi
  obtain ⟨Y, hY⟩ : ∃ Y, X.setCell ⟨gN, 0, none⟩ (.int .i64 ((m : Int) + 1)) = Y := ⟨_, rfl⟩
  have hg : X.grownBy Y (some gN) := by rw [← hY]; exact grown_set' (grown_refl X gN) 0 _
  have k4 : Blk Y gN 3 #[.int .i64 ((m : Int) + 1)] := by rw [← hY]; exact heap_setCell_same X gN 0 _ _ _ a2
  rw [hY]
  have hk : ∀ i, i < gN → i < X.heap.size → Y.heap[i]? = X.heap[i]? := fun i hi hx => hg.block i hx (fun e => by have := Option.some.inj e; omega)
  exact ⟨⟨(hk _ (by omega) a0.lt).trans a0, (hk _ (by omega) a1.lt).trans a1, k4⟩, a3.kept hg.size (fun b hb hx => hk b (by omega) hx), a4.grown hg (Nat.le_trans hs a4.size) (fun x e => by have := Option.some.inj e; omega)⟩
set_option maxRecDepth 100000 in
set_option maxHeartbeats 8000000 in
theorem scopies_walk (v0 : Value) (l : List (Int × Nat × Nat × Nat)) (za : Int) (ya : Nat) (ua : Nat × Nat) (zc : Int) (yc : Nat) (uc : Nat × Nat) (hya : ya < MM) (hua : okP ua) (hyc : yc < MM) (huc : okP uc) (up : Nat) (hup : up < 2 ^ 64) (w : World) (hl : As w.heap.size w v0 l) :
    Calls Try.prog 4 #[v0, .agg #[.int .i64 za, .int .u64 (lb ya 0), .int .u64 (lb ya 1), .int .u64 (lb ya 2), .int .u64 (lb ya 3), .int .u64 (lb ua.1 0), .int .u64 (lb ua.1 1), .int .u64 (lb ua.1 2), .int .u64 (lb ua.1 3), .int .u64 (ua.2 : Nat), .int .i64 zc, .int .u64 (lb yc 0), .int .u64 (lb yc 1), .int .u64 (lb yc 2), .int .u64 (lb yc 3), .int .u64 (lb uc.1 0), .int .u64 (lb uc.1 1), .int .u64 (lb uc.1 2), .int .u64 (lb uc.1 3), .int .u64 (uc.2 : Nat)], .int .u64 (up : Nat)] w fun e w' => e = .returned (.bool true) ∧ Below w.heap.size w w' := by
  have hl3 : l.length ≤ 9223372036854775807 := by obtain ⟨_, _, _, _, _, h, _⟩ := hl; exact h
  obtain ⟨W1, hW1⟩ : ∃ W1, (w.alloc (.cells #[.int .i64 za, .int .u64 (lb ya 0), .int .u64 (lb ya 1), .int .u64 (lb ya 2), .int .u64 (lb ya 3), .int .u64 (lb ua.1 0), .int .u64 (lb ua.1 1), .int .u64 (lb ua.1 2), .int .u64 (lb ua.1 3), .int .u64 (ua.2 : Nat), .int .i64 zc, .int .u64 (lb yc 0), .int .u64 (lb yc 1), .int .u64 (lb yc 2), .int .u64 (lb yc 3), .int .u64 (lb uc.1 0), .int .u64 (lb uc.1 1), .int .u64 (lb uc.1 2), .int .u64 (lb uc.1 3), .int .u64 (uc.2 : Nat)] 55)).alloc (.cells #[.bool false] 4) = W1 := ⟨_, rfl⟩
  have nK : Blk W1 w.heap.size 55 #[.int .i64 za, .int .u64 (lb ya 0), .int .u64 (lb ya 1), .int .u64 (lb ya 2), .int .u64 (lb ya 3), .int .u64 (lb ua.1 0), .int .u64 (lb ua.1 1), .int .u64 (lb ua.1 2), .int .u64 (lb ua.1 3), .int .u64 (ua.2 : Nat), .int .i64 zc, .int .u64 (lb yc 0), .int .u64 (lb yc 1), .int .u64 (lb yc 2), .int .u64 (lb yc 3), .int .u64 (lb uc.1 0), .int .u64 (lb uc.1 1), .int .u64 (lb uc.1 2), .int .u64 (lb uc.1 3), .int .u64 (uc.2 : Nat)] := by rw [← hW1]; exact (Blk.new _ _ _).alloc _
  have nV : Blk W1 (w.heap.size + 1) 4 #[.bool false] := by rw [← hW1]; exact Blk.newS _ _ _ _
  have hB1 : Below w.heap.size w W1 := by rw [← hW1]; exact balloc (balloc (Below.refl _ _) _) _
  have hs1 : W1.heap.size = w.heap.size + 2 := by rw [← hW1]; simp
  by_cases hlong : 20 < l.length
  · have hI : ((20 : Int) < (l.length : Int)) := by omega
    obtain ⟨x, c, rfl⟩ := hl.is
    have HX := Lib.hid (And.intro hW1 (And.intro hB1 nV))
    clear hl hl3 hlong hs1 nK nV hB1 hW1 hya hua hyc huc hup
    refine (callsIn_wide (n := 20)).1 ?_
    refine callsIn_of_wp_marks Try.func4 rfl trivial ?_ rfl
    simp only [Try.ntmps4, List.size_toArray, List.length_cons, List.length_nil, Nat.reduceAdd, Nat.reduceSub, Array.replicate_succ, Array.replicate_zero, List.push_toArray, List.append_toArray, List.nil_append, List.cons_append]
    refine (wpIn_wide (n := 20)).2 ?_
    go_upto_region 1 with fail
    rw [HX.out.1]
    go_wp2_with (first | (go_at_call 6; refine (sworks_any _).mono ?_; rintro e wz ⟨rfl, hz⟩; have hR := HX.out.2.2.keep hz; have f0 := frozen_of_row _ _ 0 _ _ hR; have d0 := cell_of_row _ _ 0 _ _ _ hR; have HZ := Lib.hid (And.intro hR hz); clear hz hR) | fail)
    have hT := heap_setCell_same wz (w.heap.size + 1) 0 _ _ (.bool true) HZ.out.1
    have q0 := cell_of_row _ _ 0 _ _ _ hT
    exact ⟨.bool true, by simp [results, Try.results4, go_sem, q0], rfl, (bstep HX.out.2.1 HZ.out.2).setCell (p := ⟨w.heap.size + 1, 0, none⟩) (by simp) _⟩
  have hI : ¬ ((20 : Int) < (l.length : Int)) := by omega
  have HA := Lib.hid (And.intro hl (And.intro hlong (And.intro nK (And.intro nV (And.intro hB1 hs1)))))
  have HO := Lib.hid (And.intro hya (And.intro hua (And.intro hyc (And.intro huc hup))))
  have HW1 := Lib.hid hW1
  obtain ⟨x, c, rfl⟩ := hl.is
  obtain ⟨N, hN⟩ : ∃ N, l.length = N := ⟨_, rfl⟩
  have HN := Lib.hid hN
  rw [hN] at hI HA ⊢
  clear hl hl3 hlong nK nV hB1 hW1 hN hs1 hya hua hyc huc hup
  refine (callsIn_wide (n := 20)).1 ?_
  refine callsIn_of_wp_marks Try.func4 rfl trivial ?_ rfl
  simp only [Try.ntmps4, List.size_toArray, List.length_cons, List.length_nil, Nat.reduceAdd, Nat.reduceSub, Array.replicate_succ, Array.replicate_zero, List.push_toArray, List.append_toArray, List.nil_append, List.cons_append]
  refine (wpIn_wide (n := 20)).2 ?_
  go_upto_region 1 with fail
  rw [HW1.out]
  go_upto_region 4 with (first
    | (go_at_call 7; refine (new_any W1).mono ?_; rintro e w2 ⟨g, bv, bw, rfl, hs, hg, hb1, hb2, hB⟩; have H2 := Lib.hid (And.intro hs (And.intro hg (And.intro hb1 (And.intro hb2 hB)))); clear hs hg hb1 hb2 hB)
    | fail)
  obtain ⟨W2, hW2⟩ : ∃ W2, w2.alloc (.cells #[.slice none 0 0] 31) = W2 := ⟨_, rfl⟩
  obtain ⟨gS, hgS⟩ : ∃ g, w2.heap.size = g := ⟨_, rfl⟩
  have hB2 : Below w2.heap.size w2 W2 := by rw [← hW2]; exact balloc (Below.refl _ _) _
  have HI0 := Lib.hid (show PlI W1.heap.size gS W1 0 (.pointer (some ⟨g, 0, none⟩)) W2 from ⟨.slice none 0 0, [], ⟨g, bv, bw, 0, fun _ => none, fun _ => none, rfl, H2.out.1.keep hB2, OwR.nil _ _, Rel.start, by show Cnt (fun _ => (0, 0)) 0; exact Cnt.none, H2.out.2.1, H2.out.2.2.1, H2.out.2.2.2.1⟩, by rw [← hW2, ← hgS]; exact Blk.new _ _ _, Nat.le_refl _, bstep H2.out.2.2.2.2 hB2⟩)
  have HGS := Lib.hid (show W1.heap.size ≤ gS from by rw [← hgS]; exact H2.out.2.2.2.2.size)
  have HW2 := Lib.hid (And.intro hgS hW2)
  clear hB2 hW2 hgS H2
  go_wp2_with fail
  rw [HW2.out.1, HW2.out.2]
  go_loopw [7, 9] (fun p i wr => ∃ k : Nat, k ≤ N ∧ i = .int .i64 k ∧ PlI W1.heap.size gS W1 k p wr) (fun _ i _ => N - (intOf i).toNat)
  case atStart => exact ⟨0, Nat.zero_le _, rfl, HI0.out⟩
  case round =>
    obtain ⟨k, hk, rfl, r, L, hst, hbS, hLk, hbl⟩ := hrel
    by_cases hlt : k < N
    · have hltI : (k : Int) < (N : Int) := by omega
      obtain ⟨a, ha⟩ : ∃ a, l[k]? = some a := ⟨_, List.getElem?_eq_getElem (by rw [HN.out]; exact hlt)⟩
      obtain ⟨b, o, c2, e, hcap, hb0, hbw, hok, hcell⟩   := As.atP HA.out.1 ha
      injection e with e1 e2 e3
      subst e1
      have hcl : ∀ w', Below W1.heap.size W1 w' → ∀ j, j < 10 → w'.cell? ⟨b, o + k * 10 + j, none⟩ = (acC a)[j]? := fun w' hk => act_cellsP hbw hcell (bstep HA.out.2.2.2.2.1 hk)
      obtain ⟨z0, y0, u0⟩ := a
      have HACT := Lib.hid (fun X (h : StW W1.heap.size X u7 r L) (hD : W1.heap.size ≤ X.heap.size) => act_any W1.heap.size u7 r L z0 y0 hok.2.1 u0 hok.2.2 X hD h (by have := HA.out; omega) (fun many hm => by have h2 : (allL L).length ≤ L.length := (by unfold allL; exact List.length_filter_le _ _); have := HA.out; omega))
      have cl0 : ∀ w', (Below W1.heap.size W1 w' ∧ ∃ r', Blk w' gS 31 #[r']) → w'.cell? ⟨b, o + k * 10, none⟩ = some (.int .i64 z0) := fun w' h => hcl w' h.1 0 (by omega)
      have cl1 : ∀ w', (Below W1.heap.size W1 w' ∧ ∃ r', Blk w' gS 31 #[r']) → w'.cell? ⟨b, o + k * 10 + 1, none⟩ = some (.int .u64 (lb y0 0)) := fun w' h => hcl w' h.1 1 (by omega)
      have cl2 : ∀ w', (Below W1.heap.size W1 w' ∧ ∃ r', Blk w' gS 31 #[r']) → w'.cell? ⟨b, o + k * 10 + 2, none⟩ = some (.int .u64 (lb y0 1)) := fun w' h => hcl w' h.1 2 (by omega)
      have cl3 : ∀ w', (Below W1.heap.size W1 w' ∧ ∃ r', Blk w' gS 31 #[r']) → w'.cell? ⟨b, o + k * 10 + 3, none⟩ = some (.int .u64 (lb y0 2)) := fun w' h => hcl w' h.1 3 (by omega)
      have cl4 : ∀ w', (Below W1.heap.size W1 w' ∧ ∃ r', Blk w' gS 31 #[r']) → w'.cell? ⟨b, o + k * 10 + 4, none⟩ = some (.int .u64 (lb y0 3)) := fun w' h => hcl w' h.1 4 (by omega)
      have cl5 : ∀ w', (Below W1.heap.size W1 w' ∧ ∃ r', Blk w' gS 31 #[r']) → w'.cell? ⟨b, o + k * 10 + 5, none⟩ = some (.int .u64 (lb u0.1 0)) := fun w' h => hcl w' h.1 5 (by omega)
      have cl6 : ∀ w', (Below W1.heap.size W1 w' ∧ ∃ r', Blk w' gS 31 #[r']) → w'.cell? ⟨b, o + k * 10 + 6, none⟩ = some (.int .u64 (lb u0.1 1)) := fun w' h => hcl w' h.1 6 (by omega)
      have cl7 : ∀ w', (Below W1.heap.size W1 w' ∧ ∃ r', Blk w' gS 31 #[r']) → w'.cell? ⟨b, o + k * 10 + 7, none⟩ = some (.int .u64 (lb u0.1 2)) := fun w' h => hcl w' h.1 7 (by omega)
      have cl8 : ∀ w', (Below W1.heap.size W1 w' ∧ ∃ r', Blk w' gS 31 #[r']) → w'.cell? ⟨b, o + k * 10 + 8, none⟩ = some (.int .u64 (lb u0.1 3)) := fun w' h => hcl w' h.1 8 (by omega)
      have cl9 : ∀ w', (Below W1.heap.size W1 w' ∧ ∃ r', Blk w' gS 31 #[r']) → w'.cell? ⟨b, o + k * 10 + 9, none⟩ = some (.int .u64 (u0.2 : Nat)) := fun w' h => hcl w' h.1 9 (by omega)
      have hdl : decide (N ≤ k) = false := decide_eq_false (by omega)
      have hdl2 : decide ((N : Int) ≤ (k : Int)) = false := decide_eq_false (by omega)
      have hS0 : PlS W1.heap.size gS W1 r wr.drew := ⟨hbl.trans (below_drew' (Below.refl _ _)), hbS⟩
      have hW0 : StW W1.heap.size wr.drew u7 r L := hst.keep (below_drew' (Below.refl _ _))
      have HL := Lib.hid (And.intro hLk hlt)
      have cS : wr.drew.cell? ⟨gS, 0, none⟩ = some r := cell_of_row _ _ 0 _ _ _ hS0.2
      clear ha hcap hb0 hbw hok hcell hcl e2 e3 hst hbS hbl hLk hk
      go_upto_region 8 with fail
      have hHd : Below W1.heap.size W1 wr.drew ∧ ∃ r', Blk wr.drew gS 31 #[r'] := ⟨hS0.1, _, hS0.2⟩
      refine wp_noPanic ?_
      refine wp_region_held_drew (S := fun w' => Below W1.heap.size W1 w' ∧ ∃ r', Blk w' gS 31 #[r']) (by as_aux_lemma => kernel_rfl) hHd (fun hHeld => ?_)
      simp only [List.size_toArray, List.length_cons, List.length_nil, Nat.reduceAdd, Array.replicate_succ, Array.replicate_zero, List.push_toArray, List.nil_append, List.cons_append]
      obtain ⟨wd, hwd⟩ : ∃ X, wr.drew = X := ⟨_, rfl⟩
      rw [hwd] at hS0 hW0 cS hHeld ⊢
      clear hHd hwd
      refine wpAnyH_take (i := 0) (oi := { dst := some 33, op := Op.move (Operand.tmp 7), type := 27, pos := "law.go:107", after := #[], guard := none }) (v := ?vq0) rfl (by as_aux_lemma => kernel_rfl) (by as_aux_lemma => kernel_rfl) (by as_aux_lemma => kernel_rfl) (fun _ _ _ h => h) (Or.inl ⟨by rfl, ?yq0⟩) (by assumption) ?rq0
      case yq0 => (intro w hSw; (try dsimp only at hSw); go_simp <;> with_reducible rfl)
      simp only [Act.put, List.setIfInBounds_toArray, List.set_cons_zero, List.set_cons_succ]
      refine wpAnyH_take (i := 2) (oi := { dst := some 35, op := Op.move (Operand.tmp 0), type := 22, pos := "law.go:107", after := #[], guard := none }) (v := ?vq1) rfl (by as_aux_lemma => kernel_rfl) (by as_aux_lemma => kernel_rfl) (by as_aux_lemma => kernel_rfl) (fun _ _ _ h => h) (Or.inl ⟨by rfl, ?yq1⟩) (by assumption) ?rq1
      case yq1 => (intro w hSw; (try dsimp only at hSw); go_simp <;> with_reducible rfl)
      simp only [Act.put, List.setIfInBounds_toArray, List.set_cons_zero, List.set_cons_succ]
      refine wpAnyH_take (i := 3) (oi := { dst := some 36, op := Op.move (Operand.tmp 9), type := 3, pos := "law.go:107", after := #[], guard := none }) (v := ?vq2) rfl (by as_aux_lemma => kernel_rfl) (by as_aux_lemma => kernel_rfl) (by as_aux_lemma => kernel_rfl) (fun _ _ _ h => h) (Or.inl ⟨by rfl, ?yq2⟩) (by assumption) ?rq2
      case yq2 => (intro w hSw; (try dsimp only at hSw); go_simp <;> with_reducible rfl)
      simp only [Act.put, List.setIfInBounds_toArray, List.set_cons_zero, List.set_cons_succ]
      refine wpAnyH_take (i := 4) (oi := { dst := some 37, op := Op.indexAddr 22 (Operand.tmp 35) (Operand.tmp 36), type := 0, pos := "law.go:107", after := #[{ on := 2, ground := Ground.data }, { on := 3, ground := Ground.data }], guard := none }) (v := ?vq3) rfl (by as_aux_lemma => kernel_rfl) (by as_aux_lemma => kernel_rfl) (by as_aux_lemma => kernel_rfl) (fun _ _ _ h => h) (Or.inl ⟨by rfl, ?yq3⟩) (by assumption) ?rq3
      case yq3 => (intro w hSw; (try dsimp only at hSw); go_simp <;> with_reducible rfl)
      simp only [Act.put, List.setIfInBounds_toArray, List.set_cons_zero, List.set_cons_succ]
      refine wpAnyH_take (i := 5) (oi := { dst := some 38, op := Op.load 38 (Operand.tmp 37), type := 38, pos := "law.go:107", after := #[{ on := 4, ground := Ground.data }], guard := none }) (v := ?vq4) rfl (by as_aux_lemma => kernel_rfl) (by as_aux_lemma => kernel_rfl) (by as_aux_lemma => kernel_rfl) (fun _ _ _ h => h) (Or.inl ⟨by rfl, ?yq4⟩) (by assumption) ?rq4
      case yq4 => (intro w hSw; (try dsimp only at hSw); go_simp <;> with_reducible rfl)
      simp only [Act.put, List.setIfInBounds_toArray, List.set_cons_zero, List.set_cons_succ]
      refine wpAnyH_ready (rs := [1]) (by as_aux_lemma => kernel_rfl) (by simp) ?_
      refine AllReadyH.cons (o := { dst := some 34, op := Op.load 31 (Operand.tmp 8), type := 31, pos := "law.go:107", after := #[], guard := none }) rfl (fun K hK => ?_) (by exact AllReadyH.nil)
      rw [if_pos (by rfl)]
      go_simp
      refine hK.out _ _ (by (try dsimp only); exact ⟨hS0.1, _, hS0.2⟩) (fun hHeld => ?_)
      clear hK K
      simp only [List.setIfInBounds_toArray, List.set_cons_zero, List.set_cons_succ]
      refine wpAnyH_ready (rs := [6]) (by as_aux_lemma => kernel_rfl) (by simp) ?_
      refine AllReadyH.cons (o := { dst := some 39, op := Op.call { callee := Callee.value (Operand.func 8), args := #[Operand.tmp 33, Operand.tmp 34, Operand.tmp 38], argTypes := #[27, 31, 38] }, type := 32, pos := "law.go:107", after := #[{ on := 0, ground := Ground.data }, { on := 1, ground := Ground.data }, { on := 5, ground := Ground.data }], guard := none }) rfl (fun K hK => ?_) (by exact AllReadyH.nil)
      rw [if_pos (by rfl)]
      go_simp
      (go_at_call 8; refine (HACT.out _ hW0 hS0.1.size).mono ?_; rintro e z6 ⟨pz6, rz6, rfl, hWz6, hBz6, hkz6⟩; obtain ⟨xz6, mz6, cz6, rfl⟩ : ∃ x m c, rz6 = .slice x m c := (by obtain ⟨x, c, h⟩ := hWz6.rows.is; exact ⟨x, _, c, h⟩))
      have hSz6 : PlS W1.heap.size gS W1 r z6 := ⟨hS0.1.trans hBz6, hkz6 _ _ hS0.2⟩
      refine hK.out _ _ (by (try dsimp only); exact ⟨hSz6.1, _, hSz6.2⟩) (fun hHeld => ?_)
      clear hK K
      simp only [List.setIfInBounds_toArray, List.set_cons_zero, List.set_cons_succ]
      refine wpAnyH_take (i := 7) (oi := { dst := some 32, op := Op.move (Operand.tmp 39), type := 32, pos := "law.go:107", after := #[{ on := 6, ground := Ground.data }], guard := none }) (v := ?vq7) rfl (by as_aux_lemma => kernel_rfl) (by as_aux_lemma => kernel_rfl) (by as_aux_lemma => kernel_rfl) (fun _ _ _ h => h) (Or.inl ⟨by rfl, ?yq7⟩) (by assumption) ?rq7
      case yq7 => (intro w hSw; (try dsimp only at hSw); go_simp <;> with_reducible rfl)
      simp only [Act.put, List.setIfInBounds_toArray, List.set_cons_zero, List.set_cons_succ]
      refine wpAnyH_take (i := 8) (oi := { dst := some 40, op := Op.extract (Operand.tmp 32) 0, type := 27, pos := "law.go:107", after := #[{ on := 7, ground := Ground.data }], guard := none }) (v := ?vq8) rfl (by as_aux_lemma => kernel_rfl) (by as_aux_lemma => kernel_rfl) (by as_aux_lemma => kernel_rfl) (fun _ _ _ h => h) (Or.inl ⟨by rfl, ?yq8⟩) (by assumption) ?rq8
      case yq8 => (intro w hSw; (try dsimp only at hSw); go_simp <;> with_reducible rfl)
      simp only [Act.put, List.setIfInBounds_toArray, List.set_cons_zero, List.set_cons_succ]
      refine wpAnyH_take (i := 9) (oi := { dst := some 41, op := Op.extract (Operand.tmp 32) 1, type := 31, pos := "law.go:107", after := #[{ on := 7, ground := Ground.data }, { on := 11, ground := Ground.gcOnly Departure.lateStores }], guard := none }) (v := ?vq9) rfl (by as_aux_lemma => kernel_rfl) (by as_aux_lemma => kernel_rfl) (by as_aux_lemma => kernel_rfl) (fun _ _ _ h => h) (Or.inl ⟨by rfl, ?yq9⟩) (by assumption) ?rq9
      case yq9 => (intro w hSw; (try dsimp only at hSw); go_simp <;> with_reducible rfl)
      simp only [Act.put, List.setIfInBounds_toArray, List.set_cons_zero, List.set_cons_succ]
      refine wpAnyH_take (i := 10) (oi := { dst := some 42, op := Op.extract (Operand.tmp 32) 2, type := 4, pos := "law.go:107", after := #[{ on := 7, ground := Ground.data }, { on := 12, ground := Ground.gcOnly Departure.lateStores }], guard := none }) (v := ?vq10) rfl (by as_aux_lemma => kernel_rfl) (by as_aux_lemma => kernel_rfl) (by as_aux_lemma => kernel_rfl) (fun _ _ _ h => h) (Or.inl ⟨by rfl, ?yq10⟩) (by assumption) ?rq10
      case yq10 => (intro w hSw; (try dsimp only at hSw); go_simp <;> with_reducible rfl)
      simp only [Act.put, List.setIfInBounds_toArray, List.set_cons_zero, List.set_cons_succ]
      refine wpAnyH_take (i := 11) (oi := { dst := some 7, op := Op.assign (Operand.tmp 40), type := 27, pos := "law.go:107", after := #[{ on := 8, ground := Ground.data }, { on := 6, ground := Ground.chain }, { on := 0, ground := Ground.phase }, { on := 1, ground := Ground.phase }, { on := 2, ground := Ground.phase }, { on := 3, ground := Ground.phase }, { on := 4, ground := Ground.phase }, { on := 5, ground := Ground.phase }, { on := 6, ground := Ground.phase }, { on := 7, ground := Ground.phase }, { on := 8, ground := Ground.phase }, { on := 9, ground := Ground.textOnly Departure.lateStores }, { on := 10, ground := Ground.textOnly Departure.lateStores }], guard := none }) (v := ?vq11) rfl (by as_aux_lemma => kernel_rfl) (by as_aux_lemma => kernel_rfl) (by as_aux_lemma => kernel_rfl) (fun _ _ _ h => h) (Or.inl ⟨by rfl, ?yq11⟩) (by assumption) ?rq11
      case yq11 => (intro w hSw; (try dsimp only at hSw); go_simp <;> with_reducible rfl)
      simp only [Act.put, List.setIfInBounds_toArray, List.set_cons_zero, List.set_cons_succ]
      refine wpAnyH_ready (rs := [12]) (by as_aux_lemma => kernel_rfl) (by simp) ?_
      refine AllReadyH.cons (o := { dst := none, op := Op.store 31 (Operand.tmp 8) (Operand.tmp 41), type := 0, pos := "law.go:107", after := #[{ on := 9, ground := Ground.data }, { on := 11, ground := Ground.chain }, { on := 0, ground := Ground.phase }, { on := 1, ground := Ground.phase }, { on := 2, ground := Ground.phase }, { on := 3, ground := Ground.phase }, { on := 4, ground := Ground.phase }, { on := 5, ground := Ground.phase }, { on := 6, ground := Ground.phase }, { on := 7, ground := Ground.phase }, { on := 8, ground := Ground.phase }, { on := 9, ground := Ground.phase }, { on := 10, ground := Ground.textOnly Departure.lateStores }, { on := 11, ground := Ground.phase }], guard := none }) rfl (fun K hK => ?_) (by exact AllReadyH.nil)
      rw [if_pos (by rfl)]
      have fx12 := frozen_of_row z6 _ 0 _ _ hSz6.2
      have cx12 := cell_of_row z6 _ 0 _ _ _ hSz6.2
      go_simp
      have hbx12 := heap_setCell_same z6 gS 0 _ _ (.slice xz6 mz6 cz6) hSz6.2
      have hBx12 : Below W1.heap.size W1 (z6.setCell ⟨gS, 0, none⟩ (.slice xz6 mz6 cz6)) := hSz6.1.setCell (p := ⟨gS, 0, none⟩) HGS.out _
      have hWx12 := hWz6.set (u := (.slice xz6 mz6 cz6)) hSz6.2
      obtain ⟨x12, hx12⟩ : ∃ Z, z6.setCell ⟨gS, 0, none⟩ (.slice xz6 mz6 cz6) = Z := ⟨_, rfl⟩
      rw [hx12] at hbx12 hBx12 hWx12 ⊢
      clear hx12
      refine hK.out _ _ (by (try dsimp only); exact ⟨hBx12, _, hbx12⟩) (fun hHeld => ?_)
      clear hK K
      simp only [List.setIfInBounds_toArray, List.set_cons_zero, List.set_cons_succ]
      refine wpAnyH_done (by as_aux_lemma => kernel_rfl) ?_ _
      clear hHeld
      simp only [noPanic]
      go_wp2_with fail
      go_roundw
      case rel => exact ⟨k + 1, by have := HL.out.2; omega, rfl, _, acL L z0 y0 u0, hWx12, hbx12, by have := ac_len L z0 y0 u0; have := HL.out.1; omega, hBx12⟩
      case measure => simp [intOf]; omega
    · have hkN : k = N := by omega
      have hge : ¬ (k : Int) < (N : Int) := by omega
      have hL20 : L.length ≤ 20 := by have := HA.out.2.1; omega
      have HL := Lib.hid hL20
      clear hlt hk hkN hLk
      obtain ⟨g0, bv0, bw0, many, fv, fw, rfl, hs, ho, hrel, hcnt, hD1, hD2, hD3⟩ := hst
      have HS := Lib.hid (And.intro hs (And.intro ho (And.intro hrel (And.intro hcnt (And.intro hD1 (And.intro hD2 hD3))))))
      have HB := Lib.hid (And.intro hbS hbl)
      have HCP := Lib.hid (copy_any g0 bv0 bw0 many fv fw wr hs)
      clear hs ho hrel hcnt hD1 hD2 hD3 hbS hbl
      go_upto_region 10 with (first
        | (go_at_call 19; refine (HCP.out).mono ?_; rintro e z1 ⟨g2, bv2, rfl, hs2, q1, q2, hb1⟩; have H1 := Lib.hid (And.intro hs2 (And.intro q1 (And.intro q2 hb1))); clear hs2 q1 q2 hb1)
        | fail)
      have HAL := Lib.hid (sall_far g0 bv0 bw0 many fv fw z1 (HS.out.1.keep H1.out.2.2.2) (HS.out.2.2.1.many (by have := HL.out; omega)))
      go_upto_region 11 with (first
        | (go_at_call 14; refine (HAL.out).mono ?_; rintro e z2 ⟨gk, gm, ks, rfl, hA, p1, p2, hb2, hF⟩; have H2 := Lib.hid (And.intro hA (And.intro p1 (And.intro p2 (And.intro hb2 hF)))); clear hA p1 p2 hb2 hF)
        | fail)
      have hX : Below wr.heap.size wr z2 := bstep H1.out.2.2.2 H2.out.2.2.2.1
      have sG : StG W1.heap.size z2 g0 bv0 bw0 (.pointer (some ⟨g0, 0, none⟩)) r L := ⟨many, fv, fw, rfl, HS.out.1.keep hX, HS.out.2.1.keep hX, HS.out.2.2⟩
      have cG : StG W1.heap.size z2 g2 bv2 bw0 (.pointer (some ⟨g2, 0, none⟩)) r L := ⟨many, fv, fw, rfl, H1.out.1.keep H2.out.2.2.2.1, HS.out.2.1.keep hX, HS.out.2.2.1, HS.out.2.2.2.1, Nat.le_trans HB.out.2.size H1.out.2.1, Nat.le_trans HB.out.2.size H1.out.2.2.1, HS.out.2.2.2.2.2.2⟩
      have hbox := HB.out.1.keep hX
      have hW2 : Below W1.heap.size W1 z2 := HB.out.2.trans (hX.mono HB.out.2.size)
      have hgn : g0 < wr.heap.size ∧ bv0 < wr.heap.size ∧ bw0 < wr.heap.size ∧ bv0 ≠ bw0 ∧ g0 ≠ bw0 := ⟨HS.out.1.1.lt, HS.out.1.2.1.lt, HS.out.1.2.2.1.lt, HS.out.1.2.2.2, blk_ne_map HS.out.1.1 HS.out.1.2.2.1⟩
      have hgm : wr.heap.size ≤ g2 ∧ wr.heap.size ≤ bv2 ∧ g2 < z1.heap.size ∧ bv2 < z1.heap.size ∧ z1.heap.size ≤ z2.heap.size := ⟨H1.out.2.1, H1.out.2.2.1, H1.out.1.1.lt, H1.out.1.2.1.lt, H2.out.2.2.2.1.size⟩
      have cS : z2.cell? ⟨gS, 0, none⟩ = some r := cell_of_row _ _ 0 _ _ _ hbox
      have kc0 : z2.cell? ⟨w.heap.size, 0, none⟩ = some (.int .i64 za) := cell_of_row _ _ 0 _ _ _ (HA.out.2.2.1.keep hW2)
      have kc1 : z2.cell? ⟨w.heap.size, 1, none⟩ = some (.int .u64 (lb ya 0)) := cell_of_row _ _ 1 _ _ _ (HA.out.2.2.1.keep hW2)
      have kc2 : z2.cell? ⟨w.heap.size, 2, none⟩ = some (.int .u64 (lb ya 1)) := cell_of_row _ _ 2 _ _ _ (HA.out.2.2.1.keep hW2)
      have kc3 : z2.cell? ⟨w.heap.size, 3, none⟩ = some (.int .u64 (lb ya 2)) := cell_of_row _ _ 3 _ _ _ (HA.out.2.2.1.keep hW2)
      have kc4 : z2.cell? ⟨w.heap.size, 4, none⟩ = some (.int .u64 (lb ya 3)) := cell_of_row _ _ 4 _ _ _ (HA.out.2.2.1.keep hW2)
      have kc5 : z2.cell? ⟨w.heap.size, 5, none⟩ = some (.int .u64 (lb ua.1 0)) := cell_of_row _ _ 5 _ _ _ (HA.out.2.2.1.keep hW2)
      have kc6 : z2.cell? ⟨w.heap.size, 6, none⟩ = some (.int .u64 (lb ua.1 1)) := cell_of_row _ _ 6 _ _ _ (HA.out.2.2.1.keep hW2)
      have kc7 : z2.cell? ⟨w.heap.size, 7, none⟩ = some (.int .u64 (lb ua.1 2)) := cell_of_row _ _ 7 _ _ _ (HA.out.2.2.1.keep hW2)
      have kc8 : z2.cell? ⟨w.heap.size, 8, none⟩ = some (.int .u64 (lb ua.1 3)) := cell_of_row _ _ 8 _ _ _ (HA.out.2.2.1.keep hW2)
      have kc9 : z2.cell? ⟨w.heap.size, 9, none⟩ = some (.int .u64 (ua.2 : Nat)) := cell_of_row _ _ 9 _ _ _ (HA.out.2.2.1.keep hW2)
      have hmL : ∀ many, (allL L).length = many → many ≤ 1000000 := fun many hm => by have h2 : (allL L).length ≤ L.length := (by unfold allL; exact List.length_filter_le _ _); have := HL.out; omega
      have HML := Lib.hid hmL
      have HAC := Lib.hid (act_far W1.heap.size g0 bv0 bw0 _ r L za ya HO.out.1 ua HO.out.2.1 z2 hW2.size sG (by have := HL.out; omega) hmL)
      have HG := Lib.hid (And.intro sG (And.intro cG (And.intro hbox (And.intro hW2 (And.intro hgn hgm)))))
      clear hX sG cG hbox hW2 hgn hgm hmL HAL HCP
      go_upto_region 12 with (first
        | (go_at_call 8; refine (HAC.out).mono ?_; rintro e z4 ⟨p1, r1, g1, bv1, bw1, rfl, h1, hc, n1, n2, n3⟩; obtain ⟨x1, m1, c1, hr1⟩ : ∃ x m c, r1 = .slice x m c := (by obtain ⟨x, c, h⟩ := h1.w.rows.is; exact ⟨x, _, c, h⟩); have H4 := Lib.hid (And.intro h1 (And.intro hc (And.intro n1 (And.intro n2 n3)))); clear h1 hc n1 n2 n3; subst hr1)
        | fail)
      obtain ⟨Z5, hZ5⟩ : ∃ Z, z4.alloc (.cells #[.slice x1 m1 c1] 31) = Z := ⟨_, rfl⟩
      obtain ⟨g12, hg12⟩ : ∃ g, z4.heap.size = g := ⟨_, rfl⟩
      have hb5 : Below z4.heap.size z4 Z5 := by rw [← hZ5]; exact balloc (Below.refl _ _) _
      have k12 : Blk Z5 g12 31 #[.slice x1 m1 c1] := by rw [← hZ5, ← hg12]; exact Blk.new _ _ _
      have s5 := H4.out.1.keep hb5
      have c5 := (HG.out.1.other HG.out.2.1 H4.out.2.1 (by have := HG.out; omega) (by have := HG.out; omega) (by have := HG.out; omega)).keep hb5
      have bS5 := (HG.out.1.box HG.out.2.2.1 H4.out.2.1).keep hb5
      have hc5 : Chg (fun k => k = g0 ∨ k = bv0) z2 Z5 := H4.out.2.1.trans (Chg.new (M := fun k => k = g0 ∨ k = bv0) hb5) (fun _ _ h => h)
      have hW5 : Below W1.heap.size W1 Z5 := HG.out.2.2.2.1.trans (hc5.below HG.out.2.2.2.1.size (fun k hk e => by have := HS.out; omega))
      have cS5 : Z5.cell? ⟨gS, 0, none⟩ = some r := cell_of_row _ _ 0 _ _ _ bS5
      rw [hZ5, hg12]
      clear cS kc0 kc1 kc2 kc3 kc4 kc5 kc6 kc7 kc8 kc9
      have kc10 : Z5.cell? ⟨w.heap.size, 10, none⟩ = some (.int .i64 zc) := cell_of_row _ _ 10 _ _ _ (HA.out.2.2.1.keep hW5)
      have kc11 : Z5.cell? ⟨w.heap.size, 11, none⟩ = some (.int .u64 (lb yc 0)) := cell_of_row _ _ 11 _ _ _ (HA.out.2.2.1.keep hW5)
      have kc12 : Z5.cell? ⟨w.heap.size, 12, none⟩ = some (.int .u64 (lb yc 1)) := cell_of_row _ _ 12 _ _ _ (HA.out.2.2.1.keep hW5)
      have kc13 : Z5.cell? ⟨w.heap.size, 13, none⟩ = some (.int .u64 (lb yc 2)) := cell_of_row _ _ 13 _ _ _ (HA.out.2.2.1.keep hW5)
      have kc14 : Z5.cell? ⟨w.heap.size, 14, none⟩ = some (.int .u64 (lb yc 3)) := cell_of_row _ _ 14 _ _ _ (HA.out.2.2.1.keep hW5)
      have kc15 : Z5.cell? ⟨w.heap.size, 15, none⟩ = some (.int .u64 (lb uc.1 0)) := cell_of_row _ _ 15 _ _ _ (HA.out.2.2.1.keep hW5)
      have kc16 : Z5.cell? ⟨w.heap.size, 16, none⟩ = some (.int .u64 (lb uc.1 1)) := cell_of_row _ _ 16 _ _ _ (HA.out.2.2.1.keep hW5)
      have kc17 : Z5.cell? ⟨w.heap.size, 17, none⟩ = some (.int .u64 (lb uc.1 2)) := cell_of_row _ _ 17 _ _ _ (HA.out.2.2.1.keep hW5)
      have kc18 : Z5.cell? ⟨w.heap.size, 18, none⟩ = some (.int .u64 (lb uc.1 3)) := cell_of_row _ _ 18 _ _ _ (HA.out.2.2.1.keep hW5)
      have kc19 : Z5.cell? ⟨w.heap.size, 19, none⟩ = some (.int .u64 (uc.2 : Nat)) := cell_of_row _ _ 19 _ _ _ (HA.out.2.2.1.keep hW5)
      have HAD := Lib.hid (act_far W1.heap.size g2 bv2 bw0 _ r L zc yc HO.out.2.2.1 uc HO.out.2.2.2.1 Z5 hW5.size c5 (by have := HL.out; omega) HML.out)
      have H5 := Lib.hid (And.intro s5 (And.intro c5 (And.intro bS5 (And.intro hc5 (And.intro hW5 k12)))))
      clear hZ5 hg12 hb5 k12 s5 c5 bS5 hc5 hW5 HAC
      go_upto_region 13 with (first
        | (go_at_call 8; refine (HAD.out).mono ?_; rintro e z6 ⟨p2, r2, g3, bv3, bw3, rfl, h1, hc, n1, n2, n3⟩; obtain ⟨x2, m2, c2, hr2⟩ : ∃ x m c, r2 = .slice x m c := (by obtain ⟨x, c, h⟩ := h1.w.rows.is; exact ⟨x, _, c, h⟩); have H6 := Lib.hid (And.intro h1 hc); clear h1 hc n1 n2 n3; subst hr2)
        | fail)
      obtain ⟨Y, hY⟩ : ∃ Z, z6.alloc (.cells #[.slice x2 m2 c2] 31) = Z := ⟨_, rfl⟩
      obtain ⟨g14, hg14⟩ : ∃ g, z6.heap.size = g := ⟨_, rfl⟩
      have hb7 : Below z6.heap.size z6 Y := by rw [← hY]; exact balloc (Below.refl _ _) _
      have k14 : Blk Y g14 31 #[.slice x2 m2 c2] := by rw [← hY, ← hg14]; exact Blk.new _ _ _
      have sY := ((H5.out.2.1.other H5.out.1 H6.out.2 (by have := HG.out.2.2.2.2; have := H4.out.2.2; omega) (by have := HG.out.2.2.2.2; have := H4.out.2.2; omega) (by have := HG.out.2.2.2.2; have := H4.out.2.2; omega)).keep hb7).w
      have cY := (H6.out.1.keep hb7).w
      have rY := (H5.out.2.1.rows H5.out.2.1.own H6.out.2).keep hb7
      have bSY := (H5.out.2.1.box H5.out.2.2.1 H6.out.2).keep hb7
      have b12Y := (H5.out.2.1.box H5.out.2.2.2.2.2 H6.out.2).keep hb7
      have hcY : Chg (fun k => k < z1.heap.size ∧ k ≠ bw0) z2 Y := (H5.out.2.2.2.1.mono (fun k _ h => by have := HG.out.2.2.2.2; have := H1.out.2.2.2.size; omega)).trans (H6.out.2.trans (Chg.new (M := fun k => k = g2 ∨ k = bv2) hb7) (fun _ _ h => h)) (fun k _ h => by have := HG.out.2.2.2.2; omega)
      have aY := H2.out.2.2.2.2 Y hcY
      have hWY : Below W1.heap.size W1 Y := H5.out.2.2.2.2.1.trans ((H6.out.2.below H5.out.2.2.2.2.1.size (fun k hk e => by have := HG.out.2.2.2.2; have := HB.out.2.size; omega)).trans (hb7.mono (Nat.le_trans H5.out.2.2.2.2.1.size H6.out.2.size)))
      have hl1 : (acL L za ya ua).length ≤ 1000 := by have := ac_len L za ya ua; have := HL.out; omega
      have hl2 : (acL L zc yc uc).length ≤ 1000 := by have := ac_len L zc yc uc; have := HL.out; omega
      obtain ⟨L1, hL1⟩ : ∃ l, acL L za ya ua = l := ⟨_, rfl⟩
      obtain ⟨L2, hL2⟩ : ∃ l, acL L zc yc uc = l := ⟨_, rfl⟩
      obtain ⟨t, ht⟩ : ∃ t, alR L1 L2 up = t := ⟨_, rfl⟩
      rw [hL1] at sY hl1
      rw [hL2] at cY hl2
      have hll : L.length ≤ 1000 := by have := HL.out; omega
      have hup := HO.out.2.2.2.2
      have HRA := Lib.hid (by have h := ralike_any W1.heap.size W1.heap.size up (.slice x1 m1 c1) (.slice x2 m2 c2) L1 L2 hup Y sY.rows cY.rows hl1 hl2; rw [ht] at h; exact h : Calls Try.prog 21 #[.agg #[.slice x1 m1 c1], .agg #[.slice x2 m2 c2], .int .u64 (up : Nat)] Y fun e w' => e = .returned (.bool t) ∧ Below Y.heap.size Y w')
      have HI1 := Lib.hid (fun Z (hZ : Below Y.heap.size Y Z) => is_any W1.heap.size p1 (.slice x1 m1 c1) L1 99 Z (sY.keep hZ) hl1)
      have HI2 := Lib.hid (fun Z (hZ : Below Y.heap.size Y Z) => is_any W1.heap.size p2 (.slice x2 m2 c2) L2 99 Z (cY.keep hZ) hl2)
      have HK1 := Lib.hid (fun Z (hZ : Below Y.heap.size Y Z) => (by have h := (sY.keep hZ).alike (cY.keep hZ) up hup; rw [ht] at h; exact h : Calls Try.prog 20 #[p1, p2, .int .u64 (up : Nat)] Z fun e w' => e = .returned (.bool t) ∧ Below Z.heap.size Z w'))
      have HK2 := Lib.hid (fun Z (hZ : Below Y.heap.size Y Z) => (by have h := (cY.keep hZ).alike (sY.keep hZ) up hup; rw [alR_comm, ht] at h; exact h : Calls Try.prog 20 #[p2, p1, .int .u64 (up : Nat)] Z fun e w' => e = .returned (.bool t) ∧ Below Z.heap.size Z w'))
      have HRL := Lib.hid (fun Z (hZ : Below Y.heap.size Y Z) => rall_any W1.heap.size r L Z (rY.keep hZ) hll)
      obtain ⟨M, hM⟩ : ∃ M, (allL L).length = M := ⟨_, rfl⟩
      have hml : M ≤ 1000 := by rw [← hM]; unfold allL; exact Nat.le_trans (List.length_filter_le _ _) hll
      have HM := Lib.hid (And.intro hM hml)
      have d12 : Y.cell? ⟨g12, 0, none⟩ = some (.slice x1 m1 c1) := cell_of_row _ _ 0 _ _ _ b12Y
      have d14 : Y.cell? ⟨g14, 0, none⟩ = some (.slice x2 m2 c2) := cell_of_row _ _ 0 _ _ _ k14
      have hks : ks = (allL L).map (·.1) := rise_unique aY.2 HS.out.2.2.1.rise
      have HY := Lib.hid (And.intro b12Y (And.intro k14 (And.intro bSY (And.intro hWY (And.intro (HA.out.2.2.2.1.keep hWY) aY)))))
      have hnil : ∀ (p q : Value) w, (binOp .eql 46 (.func (.func 32) #[] #[p, q]) .nilFunc).run Try.prog w = .ok (.bool false) w := fun _ _ _ => by kernel_rfl
      rw [hY, hg14]
      clear hY hg14 hb7 k14 sY cY rY bSY b12Y hcY aY hWY hl1 hl2 hL1 hL2 ht hll hup hM hml H4 H5 H6 HAD cS5 hL20 hge
      subst hks
      go_upto_region 17 with (first
        | (go_at_call 21; refine (HRA.out).mono ?_; rintro e y1 ⟨rfl, hH1⟩; have d12a : y1.cell? ⟨g12, 0, none⟩ = some (.slice x1 m1 c1) := cell_of_row _ _ 0 _ _ _ (HY.out.1.keep hH1))
        | (go_at_call 9; (with_reducible refine (HI1.out _ hH1).mono ?_); rintro e y2 ⟨rfl, hz⟩; have hH2 : Below Y.heap.size Y y2 := rstep hz hH1; have d14b : y2.cell? ⟨g14, 0, none⟩ = some (.slice x2 m2 c2) := cell_of_row _ _ 0 _ _ _ (HY.out.2.1.keep hH2); clear hz)
        | (go_at_call 9; (with_reducible refine (HI2.out _ hH2).mono ?_); rintro e y3 ⟨rfl, hz⟩; have hH3 : Below Y.heap.size Y y3 := rstep hz hH2; clear hz)
        | (go_at_call 20; (with_reducible refine (HK1.out _ hH3).mono ?_); rintro e y4 ⟨rfl, hz⟩; have hH4 : Below Y.heap.size Y y4 := rstep hz hH3; clear hz)
        | (go_at_call 20; (with_reducible refine (HK2.out _ hH4).mono ?_); rintro e y5 ⟨rfl, hz⟩; have hH5 : Below Y.heap.size Y y5 := rstep hz hH4; have d8 : y5.cell? ⟨gS, 0, none⟩ = some r := cell_of_row _ _ 0 _ _ _ (HY.out.2.2.1.keep hH5); clear hz)
        | (go_at_call 22; (with_reducible refine (HRL.out _ hH5).mono ?_); rintro e y6 ⟨u, rfl, hO, hz⟩; obtain ⟨yu, cu, hu⟩ := hO.is; rw [HM.out.1] at hu; subst hu; have hH6 : Below Y.heap.size Y y6 := rstep hz hH5; have H7 := Lib.hid (And.intro hO hH6); clear hz hO hH6)
        | fail)
      obtain ⟨V, hV⟩ : ∃ V, y6.alloc (.cells #[.slice yu M cu] 29) = V := ⟨_, rfl⟩
      obtain ⟨gL, hgL⟩ : ∃ g, y6.heap.size = g := ⟨_, rfl⟩
      have hb8 : Below y6.heap.size y6 V := by rw [← hV]; exact balloc (Below.refl _ _) _
      have kL : Blk V gL 29 #[.slice yu M cu] := by rw [← hV, ← hgL]; exact Blk.new _ _ _
      have hYV : Below Y.heap.size Y V := H7.out.2.trans (hb8.mono H7.out.2.size)
      have rL := (RwS.of (H7.out.1.keep hb8)).up (Nat.le_refl V.heap.size)
      rw [hV, hgL]
      clear hV hgL
      go_wp2_with fail
      obtain ⟨gN, hgN⟩ : ∃ g, V.heap.size = g := ⟨_, rfl⟩
      obtain ⟨Z0, hZ0⟩ : ∃ Z, V.alloc (.cells #[.int .i64 0] 3) = Z := ⟨_, rfl⟩
      obtain ⟨vL, hvL⟩ : ∃ v, Value.slice yu M cu = v := ⟨_, rfl⟩
      have hVZ : Below V.heap.size V Z0 := by rw [← hZ0]; exact balloc (Below.refl _ _) _
      have kN : Blk Z0 gN 3 #[.int .i64 (0 : Nat)] := by rw [← hZ0, ← hgN]; exact Blk.new V _ _
      have hsZ : Z0.heap.size = gN + 1 := by rw [← hZ0, World.size_alloc, hgN]
      have hYZ : Below Y.heap.size Y Z0 := bstep hYV hVZ
      have hwY : Below w.heap.size w Y := HA.out.2.2.2.2.1.trans (HY.out.2.2.2.1.mono (by have := HA.out.2.2.2.2.2; omega))
      have hlL := kL.lt
      have hYs := hYV.size
      have hWs := HY.out.2.2.2.1.size
      have hws := HA.out.2.2.2.2.2
      rw [hvL] at rL kL
      rw [hgN] at rL
      have HI := Lib.hid (show CoB w.heap.size gL gN vL (allL L) w 0 Z0 from ⟨⟨HY.out.2.2.2.2.1.keep hYZ, kL.keep hVZ, kN⟩, rL.kept hVZ.size (fun b _ hb => hVZ.block b hb), hwY.trans (hYZ.mono hwY.size)⟩)
      have HGN := Lib.hid (show w.heap.size + 1 < gN ∧ gL < gN ∧ Z0.heap.size = gN + 1 ∧ Y.heap.size ≤ gN from ⟨by omega, by omega, hsZ, by omega⟩)
      have HZ := Lib.hid hYZ
      have HVL := Lib.hid hvL
      rw [hgN, hZ0]
      clear hgN hZ0 hvL hVZ kN hsZ hYZ hwY hlL hYs hWs hws rL kL hYV hb8 hnil d12 d14 d12a d14b d8 hH1 hH2 hH3 hH4 hH5 HRA HI1 HI2 HK1 HK2 HRL
      refine (wpIn_wide (n := 20)).1 ?_
      refine wpIn_rangeV (n := 20) (by omega) (gf := 32) (lb := #[.pointer (some ⟨gk, 0, none⟩), .pointer (some ⟨gm, 0, none⟩)]) rfl enters_all
        (all_seq (20 - 1) (by omega) gk gm gN _ (ovr fv fw) ((allL L).map (·.1)) Y Z0 HY.out.2.2.2.2.2 HGN.out.2.2.2 (by have := HGN.out; omega) HZ.out (by rw [List.length_map]; have := HM.out; omega)) (Below.refl _ _) (by have := HGN.out; omega) (fun k h => h.elim) (fun _ => rfl)
        (fun pre X => CoB w.heap.size gL gN vL (allL L) w pre.length X)
        (fun _ _ _ => False)
        (fun pre X Y row h hw hr => h.kept (r0 := gN + 1) hw (by have := HGN.out; omega) (Nat.le_refl _) (fun x e => by have := HGN.out; rcases hr x e with h | h | h; exact h.elim; omega; omega))
        (fun _ _ _ _ _ h _ _ => h.elim)
        (fun pre X h => trivial) HI.out
        (fun x a' Y => ∃ (gK gV : Nat), (∃ y : Nat → Value, a' = { tmps := #[y 0, y 1, y 2, y 3, y 4, y 5, .pointer (some ⟨w.heap.size + 1, 0, none⟩), y 7, y 8, y 9, y 10, y 11, y 12, y 13, y 14, y 15, y 16, .pointer (some ⟨gL, 0, none⟩), .pointer (some ⟨gN, 0, none⟩), .pointer (some ⟨gK, 0, none⟩), .pointer (some ⟨gV, 0, none⟩), y 21, y 22, y 23, y 24, y 25, y 26, y 27, y 28, y 29, y 30, y 31, y 32, y 33, y 34, y 35, y 36, y 37, y 38, y 39, y 40, y 41, y 42, y 43, y 44, y 45, y 46, y 47, y 48, y 49, y 50, y 51, y 52, y 53, y 54, y 55, y 56, y 57, y 58, y 59, y 60, y 61, y 62, y 63, y 64, y 65, y 66, y 67, y 68, y 69, y 70, y 71, y 72, y 73, y 74, y 75, y 76, y 77, y 78, y 79, y 80, y 81, y 82, y 83, y 84, y 85, y 86, y 87, y 88, y 89, y 90, y 91, y 92, y 93, y 94, y 95, y 96, y 97, y 98, y 99, y 100, y 101, y 102, y 103, y 104, y 105, y 106, y 107, y 108, y 109, y 110, y 111, y 112, y 113, y 114, y 115, y 116, y 117, y 118, y 119, y 120, y 121, y 122, y 123, y 124, y 125, y 126, y 127, y 128, y 129, y 130, y 131, y 132, y 133, y 134, y 135, y 136, y 137, y 138, y 139, y 140, y 141, y 142], defers := [] }) ∧ Blk Y gK 25 (Wc x) ∧ Blk Y gV 36 (vA (lk (ovr fv fw) x).1 (lk (ovr fv fw) x).2) ∧ gN + 2 < gK ∧ gN + 2 < gV)
        (fun x a' s X Y row hs hw hr => by
          obtain ⟨gK, gV, e, k1, k2, h1, h2⟩ := hs
          have hz := HGN.out.2.2.1
          exact ⟨gK, gV, e, k1.kept hw (fun e => by have := hr _ e.symm; omega), k2.kept hw (fun e => by have := hr _ e.symm; omega), h1, h2⟩)
        ?assign ?body ?done ?stop
      case assign =>
        rintro l2 pre x X K _ hlt hi hK
        gi_wp2_with fail
        obtain ⟨Y2, hY2⟩ : ∃ Y2, (X.alloc (.cells (Wc x) 25)).alloc (.cells (vA (lk (ovr fv fw) x).1 (lk (ovr fv fw) x).2) 36) = Y2 := ⟨_, rfl⟩
        have hXY : Below X.heap.size X Y2 := by rw [← hY2]; exact balloc (balloc (Below.refl _ _) _) _
        have hz := HGN.out.2.2.1
        rw [hY2]
        exact hK _ _ (KeptM.new hXY) (hXY.mono (by omega)) (hi.kept (r0 := gN + 1) (row := none) (grown_new hXY) (by have := HGN.out; omega) (Nat.le_refl _) (fun _ e => by cases e)) (by
          refine ⟨X.heap.size, X.heap.size + 1, ex_frameI (by rfl), ?_⟩
          exact ⟨by rw [← hY2]; exact (Blk.new X _ _).alloc _, by rw [← hY2]; exact Blk.newS X _ _ _, by omega, by omega⟩)
      case body =>
        rintro l2 pre x a' X hl2 ⟨i, hix, hpre⟩ hlo hi ⟨gK, gV, ⟨y, rfl⟩, kK, kV, hgK, hgV⟩
        obtain ⟨row, hrow, rfl⟩ : ∃ row, (allL L)[i]? = some row ∧ row.1 = x := by
          rw [List.getElem?_map] at hix
          obtain ⟨row, h1, h2⟩ := Option.map_eq_some_iff.1 hix
          exact ⟨row, h1, h2⟩
        obtain ⟨hil, _⟩ := List.getElem?_eq_some_iff.1 hrow
        have hpl : pre.length = i := by rw [hpre, List.length_take, List.length_map]; omega
        have hval := HS.out.2.2.1.all_at hrow
        have hok : row.1 < MM := HY.out.2.2.2.2.2.2.2.2 _ (List.mem_map_of_mem (List.mem_of_getElem? hrow))
        have hokv : okP row.2.1 := (HS.out.2.1.1 row ((List.mem_filter.1 (List.mem_of_getElem? hrow)).1)).2.1
        rw [← hval] at kV
        rw [HM.out.1] at hil
        have hsn : (pre ++ [row.1]).length = i + 1 := by rw [List.length_append, hpl]; rfl
        obtain ⟨b, o, c, e9, hb1, hb2, hcl⟩ := hi.2.1 i row hrow
        rw [HM.out.1] at e9
        rw [hpl] at hi
        have cN : X.cell? ⟨gN, 0, none⟩ = some (.int .i64 (i : Nat)) := cell_of_row X _ 0 _ _ _ hi.1.2.2
        have cL : X.cell? ⟨gL, 0, none⟩ = some (.slice (some ⟨b, o, none⟩) M c) := by rw [← e9]; exact cell_of_row X _ 0 _ _ _ hi.1.2.1
        have hilI : (i : Int) < (M : Int) := by omega
        have hilJ : ¬ (M : Int) ≤ (i : Int) := by omega
        have hdl : decide ((M : Int) ≤ (i : Int)) = false := decide_eq_false (by omega)
        have hdn : decide (M ≤ i) = false := decide_eq_false (by omega)
        have q0 : X.cell? ⟨b, o + i * 14, none⟩ = some (.int .u64 (lb row.1 0)) := hcl 0 (by omega)
        have q1 : X.cell? ⟨b, o + i * 14 + 1, none⟩ = some (.int .u64 (lb row.1 1)) := hcl 1 (by omega)
        have q2 : X.cell? ⟨b, o + i * 14 + 2, none⟩ = some (.int .u64 (lb row.1 2)) := hcl 2 (by omega)
        have q3 : X.cell? ⟨b, o + i * 14 + 3, none⟩ = some (.int .u64 (lb row.1 3)) := hcl 3 (by omega)
        have q4 : X.cell? ⟨b, o + i * 14 + 4, none⟩ = some (.int .u64 (lb row.2.1.1 0)) := hcl 4 (by omega)
        have q5 : X.cell? ⟨b, o + i * 14 + 5, none⟩ = some (.int .u64 (lb row.2.1.1 1)) := hcl 5 (by omega)
        have q6 : X.cell? ⟨b, o + i * 14 + 6, none⟩ = some (.int .u64 (lb row.2.1.1 2)) := hcl 6 (by omega)
        have q7 : X.cell? ⟨b, o + i * 14 + 7, none⟩ = some (.int .u64 (lb row.2.1.1 3)) := hcl 7 (by omega)
        have q8 : X.cell? ⟨b, o + i * 14 + 8, none⟩ = some (.int .u64 (row.2.1.2 : Nat)) := hcl 8 (by omega)
        have x0 : X.cell? ⟨gK, 0, none⟩ = some (.int .u64 (lb row.1 0)) := cell_of_row X _ 0 _ _ _ kK
        have x1 : X.cell? ⟨gK, 1, none⟩ = some (.int .u64 (lb row.1 1)) := cell_of_row X _ 1 _ _ _ kK
        have x2 : X.cell? ⟨gK, 2, none⟩ = some (.int .u64 (lb row.1 2)) := cell_of_row X _ 2 _ _ _ kK
        have x3 : X.cell? ⟨gK, 3, none⟩ = some (.int .u64 (lb row.1 3)) := cell_of_row X _ 3 _ _ _ kK
        have v0 : X.cell? ⟨gV, 0, none⟩ = some (.int .u64 (lb row.2.1.1 0)) := cell_of_row X _ 0 _ _ _ kV
        have v1 : X.cell? ⟨gV, 1, none⟩ = some (.int .u64 (lb row.2.1.1 1)) := cell_of_row X _ 1 _ _ _ kV
        have v2 : X.cell? ⟨gV, 2, none⟩ = some (.int .u64 (lb row.2.1.1 2)) := cell_of_row X _ 2 _ _ _ kV
        have v3 : X.cell? ⟨gV, 3, none⟩ = some (.int .u64 (lb row.2.1.1 3)) := cell_of_row X _ 3 _ _ _ kV
        have v4 : X.cell? ⟨gV, 4, none⟩ = some (.int .u64 (row.2.1.2 : Nat)) := cell_of_row X _ 4 _ _ _ kV
        have nw := fun X => neqWR row.1 row.1 hok hok X
        have nv := fun X => neqVal_R row.2.1 row.2.1 hokv hokv X
        rw [show (!(row.1 == row.1)) = false by simp] at nw
        rw [show (!(decide (row.2.1 = row.2.1))) = false by simp] at nv
        have HBD := Lib.hid (And.intro hi (And.intro hpl hsn))
        have HIL := Lib.hid hil
        clear hix hi hl2 hpl hsn hrow hval hok hokv hil kK kV hcl e9 hb1 hb2 hlo hpre hgK hgV
        gi_wp2_with fail
        refine wpIn_region_quiet_round l2 (by kernel_rfl) (by kernel_rfl) (by kernel_rfl) ?_
        iterate 22 (quiet_step_in (fail))
        refine wpQuietIn_nil ?_
        intro _ hw'
        obtain ⟨nq2, hw''⟩ := hw'
        subst hw''
        obtain ⟨hI, hpl, hsn⟩ := HBD.out
        have hil := HIL.out
        have hml := HM.out.2
        obtain ⟨Xq, hXq⟩ : ∃ Xq, X.drewN nq2 = Xq := ⟨_, rfl⟩
        have hGq : X.grownBy Xq none := by rw [← hXq]; exact ⟨rfl, rfl, rfl, Nat.le_refl _, fun _ _ _ => rfl⟩
        have hBX : Below gN X Xq := by rw [← hXq]; exact below_drewN (Below.refl _ X) nq2
        have hIq := hI.kept (r0 := gN + 1) hGq (by have := HGN.out; omega) (Nat.le_refl _) (fun _ e => by cases e)
        have hIz := hIq.count (by have := HGN.out; omega) (Nat.le_refl _)
        have hKq : KeptM (fun k => noMs k ∨ k = Z0.heap.size ∨ k = Z0.heap.size + 1) X (Xq.setCell ⟨gN, 0, none⟩ (.int .i64 ((i : Int) + 1))) := (KeptM.grown hGq (fun r e => by cases e)).trans (KeptM.grown (grown_set' (grown_refl Xq gN) 0 _) (fun r e h => by cases e; have := HGN.out; rcases h with h | h | h; exact h.elim; omega; omega))
        have hBz : Below gN X (Xq.setCell ⟨gN, 0, none⟩ (.int .i64 ((i : Int) + 1))) := hBX.setCell (p := ⟨gN, 0, none⟩) (by simp) _
        rw [hXq]
        have cN1 : Xq.cell? ⟨gN, 0, none⟩ = some (.int .i64 (i : Nat)) := cell_of_row Xq _ 0 _ _ _ hIq.1.2.2
        have fN := frozen_of_row Xq _ 0 _ _ hIq.1.2.2
        have hwp : IntKind.i64.wrap ((i : Int) + 1) = (i : Int) + 1 := IntWalk.i64_in _ (by omega)
        rw [← hsn] at hIz
        have HE := Lib.hid (And.intro hKq (And.intro hBz hIz))
        clear hI hpl hsn hXq hGq hBX hIq hIz hKq hBz q0 q1 q2 q3 q4 q5 q6 q7 q8 x0 x1 x2 x3 v0 v1 v2 v3 v4 nw nv cN cL HBD
        gi_wp2_with fail
        exact HE.out
      case stop => intro _ _ _ _ _ _ h; exact h.elim
      case done =>
        rintro Dd xs X1 hD rfl hI hK
        rw [List.length_map, HM.out.1] at hI
        have hDn : w.heap.size + 2 ≤ Dd := by have := HGN.out; omega
        have cN : X1.cell? ⟨gN, 0, none⟩ = some (.int .i64 (M : Nat)) := cell_of_row X1 _ 0 _ _ _ hI.1.2.2
        have cL : X1.cell? ⟨gL, 0, none⟩ = some (.slice yu M cu) := by rw [HVL.out]; exact cell_of_row X1 _ 0 _ _ _ hI.1.2.1
        have qM : ((M : Int) == (M : Int)) = true := by simp
        have HF := Lib.hid (And.intro hI.1.1 (And.intro hI.2.2 (And.intro hK hDn)))
        clear hI hK hD hDn
        go_wp2_with (first
          | (go_at_call 6; refine (sworks_any _).mono ?_; rintro e wz ⟨rfl, hz⟩; have hR := HF.out.1.keep hz; have f0 := frozen_of_row _ _ 0 _ _ hR; have d0 : wz.cell? ⟨w.heap.size + 1, 0, none⟩ = some (.bool false) := cell_of_row _ _ 0 _ _ _ hR; have HZ2 := Lib.hid (And.intro hR hz); clear hz hR)
          | fail)
        obtain ⟨_, hbX, hK, hDn⟩ := HF.out
        obtain ⟨hR, hZ⟩ := HZ2.out
        have hdY : (wz.setCell ⟨w.heap.size + 1, 0, none⟩ (.bool true)).heap[Dd]? = some (.deferred (some [])) := (Below.heap_setCell wz ⟨w.heap.size + 1, 0, none⟩ _ Dd (by simp; omega)).trans ((hZ.block Dd (Array.getElem?_eq_some_iff.1 hK).1).trans hK)
        have bY : Blk (wz.setCell ⟨w.heap.size + 1, 0, none⟩ (.bool true)) (w.heap.size + 1) 4 #[.bool true] := heap_setCell_same wz _ 0 _ _ _ hR
        have hBY : Below w.heap.size w (wz.setCell ⟨w.heap.size + 1, 0, none⟩ (.bool true)) := (hbX.trans (hZ.mono hbX.size)).setCell (p := ⟨w.heap.size + 1, 0, none⟩) (by simp) _
        obtain ⟨Y9, hY9⟩ : ∃ Y9, wz.setCell ⟨w.heap.size + 1, 0, none⟩ (.bool true) = Y9 := ⟨_, rfl⟩
        rw [hY9] at hdY bY hBY ⊢
        have bY2 : Blk (Y9.putObj Dd (.deferred none)) (w.heap.size + 1) 4 #[.bool true] := bY.kept (grownBy_putObj' Y9 Dd _) (by intro e; injection e with e; omega)
        have r0 := cell_of_row _ _ 0 _ _ _ bY2
        refine ⟨by simp, .inl ⟨_, _, rfl, run_takeDeferred hdY, ?_⟩⟩
        exact ⟨.bool true, by simp [results, Try.results4, go_sem, r0], rfl, hBY.trans (below_put Y9 _ (by omega))⟩
end Go.Proofs.Ytcfnhilcpfiocaa
