/- slot: All's iterator. -/
import Derived.Test.YtcfnhilcpfiocaaSty
namespace Go.Proofs.Ytcfnhilcpfiocaa
open Go.RowKit Go.Shelf Go.ChangeMaps Go.MapKept

theorem AlB.keep {X Y : World} {base gk gm : Nat} {m : Nat → Option (Nat × Nat)} {l : List Nat} (h : AlB X base gk gm m l) (k : Below X.heap.size X Y) : AlB Y base gk gm m l := by
  obtain ⟨⟨v, b, h1, h2, h3, h4, h5⟩, h6⟩ := h
  exact ⟨⟨v, b, h1.keep k, OwW.kept h2 (grown_new k) (fun r e => by cases e), h3.keep k, h4.keep k, h5⟩, h6⟩
theorem OwW.at {X : World} {base : Nat} {v : Value} {l : List Nat} (h : OwW X base v l) {k x : Nat} (hk : l[k]? = some x) : ∃ b o c, v = .slice (some ⟨b, o, none⟩) l.length c ∧ ∀ j, j < 4 → X.cell? ⟨b, o + k * 4 + j, none⟩ = (Wc x)[j]? := by
  obtain ⟨y, c, rfl⟩ := h.is
  have h0 := h
  rcases h.2 with ⟨hv, hn⟩ | ⟨g, cap, cur, hv, _⟩
  · rw [List.eq_nil_of_length_eq_zero hn] at hk; cases hk
  · refine ⟨g, 0, c, by injection hv with e1 _ _; rw [e1], fun j hj => ?_⟩
    have hw : (wvs l)[k * 4 + j]? = (Wc x)[j]? := by rw [wvs_get l k j hj, hk]; rfl
    obtain ⟨u, hu⟩ : ∃ u, (Wc x)[j]? = some u := ⟨_, Array.getElem?_eq_getElem (by show j < 4; exact hj)⟩
    have h1 := World.ownsRow.cells h0 (g := g) (by rw [hv]; rfl) (k * 4 + j) u (hw.trans hu)
    rw [Addr.add_lit] at h1
    rw [hu, Nat.add_assoc]
    exact h1
theorem take_suc {α : Type} {l : List α} {k : Nat} {x : α} (h : l[k]? = some x) : l.take (k + 1) = l.take k ++ [x] := by rw [List.take_add_one, h]; rfl
/-- How a yield ends, in one way. -/
def YQut (n₀ : Nat) (J Jx : List Nat → World → Prop) (pre : List Nat) (X : World) (b : Bool) (Y : World) : Prop := (b = true → J pre Y ∧ X.heap.size ≤ Y.heap.size ∧ Below n₀ X Y) ∧ (b = false → Jx pre Y)
theorem yQut {X : World} {n₀ : Nat} {J Jx : List Nat → World → Prop} {pre : List Nat} {e : Ending} {Y : World} (h : (e = .returned (.bool true) ∧ J pre Y ∧ X.heap.size ≤ Y.heap.size ∧ Below n₀ X Y) ∨ (e = .returned (.bool false) ∧ Jx pre Y)) : ∃ b, e = .returned (.bool b) ∧ YQut n₀ J Jx pre X b Y := by
  rcases h with ⟨h1, h2⟩ | ⟨h1, h2⟩
  · exact ⟨true, h1, fun _ => h2, fun h => (by cases h)⟩
  · exact ⟨false, h1, fun h => (by cases h), fun _ => h2⟩
attribute [local go_sem] Oper.semAt_some
set_option maxRecDepth 100000 in
set_option maxHeartbeats 2000000 in
theorem all1_in (n : Nat) (hn : 6 ≤ n) (L gk gm n₀ base : Nat) (m : Nat → Option (Nat × Nat)) (l : List Nat) (J Jx : List Nat → World → Prop) (X0 w : World) (hA : AlB X0 base gk gm m l) (hX0 : X0.heap.size ≤ n₀) (hn₀ : n₀ ≤ w.heap.size) (hw : Below X0.heap.size X0 w) (hll : l.length ≤ 1000000)
    (hJ : ∀ s X (o : Obj), J s X → J s (X.alloc o)) (hJd : ∀ s X, J s X → J s X.drew)
    (hY : ∀ k (x : Nat) X, l[k]? = some x → J (l.take k) X → YieldAt Fence.wide 0 Try.prog L #[W x, vP (lk m x)] X fun e Y => (e = .returned (.bool true) ∧ J (l.take k ++ [x]) Y ∧ X.heap.size ≤ Y.heap.size ∧ Below n₀ X Y) ∨ (e = .returned (.bool false) ∧ Jx (l.take k ++ [x]) Y))
    (h0 : J [] w) :
    CallsIn Fence.wide n Try.prog 32 #[.func (.yield L) #[] #[], .pointer (some ⟨gk, 0, none⟩), .pointer (some ⟨gm, 0, none⟩)] w fun e Y => (∃ v, e = .returned v) ∧
      (J l Y ∨ (∃ k, k < l.length ∧ Jx (l.take (k + 1)) Y)) := by
  obtain ⟨⟨v, b, h1, h2, h3, h4, _⟩, hR⟩ := hA
  obtain ⟨xl, cl, rfl⟩ := h2.is
  have cK := cell_of_row _ _ 0 _ _ _ (h1.keep hw)
  have HA := Lib.hid (And.intro hX0 (And.intro hn₀ (And.intro hw (And.intro hJ (And.intro hJd hR)))))
  have HK0 := Lib.hid (fun Y (k : Below X0.heap.size X0 Y) => And.intro (h3.keep k) (h4.keep k))
  have HY := Lib.hid hY
  obtain ⟨N, hN⟩ : ∃ N, l.length = N := ⟨_, rfl⟩
  rw [hN] at cK hll
  have HN := Lib.hid hN
  have HO := Lib.hid h2
  clear hX0 hn₀ hw hJ hJd hR hY h1 h2 h3 h4
  refine callsIn_of_wp_marks Try.func32 rfl trivial ?_ rfl
  simp only [Try.ntmps32, List.size_toArray, List.length_cons, List.length_nil, Nat.reduceAdd, Nat.reduceSub, Array.replicate_succ, Array.replicate_zero, List.push_toArray, List.append_toArray, List.nil_append, List.cons_append]
  gi_wp2_with fail
  gi_loopw [8] (fun i wr => ∃ k : Nat, i = .int .i64 (k : Int) ∧ k ≤ N ∧ J (l.take k) wr ∧ w.heap.size ≤ wr.heap.size ∧ Below n₀ w wr) (fun i _ => N - (intOf i).toNat)
  case atStart => exact ⟨0, rfl, by omega, by rw [List.take_zero]; exact h0, Nat.le_refl _, Below.refl _ _⟩
  case round =>
    clear h0 cK
    obtain ⟨k, rfl, hk, hj, hsz, hbl⟩ := hrel
    by_cases hlt : k < N
    · have hkI : (k : Int) < (N : Int) := by omega
      have hk0 : ¬ (k : Int) < 0 := by omega
      obtain ⟨x, hx⟩ : ∃ x, l[k]? = some x := ⟨_, List.getElem?_eq_getElem (by rw [HN.out]; exact hlt)⟩
      have hX0 : Below X0.heap.size X0 wr := HA.out.2.2.1.trans (hbl.mono HA.out.1)
      obtain ⟨bk, ok, c2, e, hcell⟩ := HO.out.at hx
      injection e with e1 _ e3
      subst e1 e3
      have hxM : x < MM := HA.out.2.2.2.2.2.2.2 x (List.mem_of_getElem? hx)
      have hcl : ∀ j, j < 4 → wr.cell? ⟨bk, ok + k * 4 + j, none⟩ = (Wc x)[j]? := fun j hj => by
        have h9 := hcell j hj
        obtain ⟨u, hu⟩ : ∃ u, (Wc x)[j]? = some u := ⟨_, Array.getElem?_eq_getElem (by show j < 4; exact hj)⟩
        rw [hu] at h9 ⊢
        exact (hX0.cell (p := ⟨bk, ok + k * 4 + j, none⟩) (World.block_lt_of_cell? X0 _ h9)).trans h9
      have d0 : wr.cell? ⟨bk, ok + k * 4, none⟩ = some (.int .u64 (lb x 0)) := hcl 0 (by omega)
      have d1 : wr.cell? ⟨bk, ok + k * 4 + 1, none⟩ = some (.int .u64 (lb x 1)) := hcl 1 (by omega)
      have d2 : wr.cell? ⟨bk, ok + k * 4 + 2, none⟩ = some (.int .u64 (lb x 2)) := hcl 2 (by omega)
      have d3 : wr.cell? ⟨bk, ok + k * 4 + 3, none⟩ = some (.int .u64 (lb x 3)) := hcl 3 (by omega)
      obtain ⟨W2, hW2⟩ : ∃ W2, wr.alloc (.cells (Wc x) 25) = W2 := ⟨_, rfl⟩
      have hal : Below wr.heap.size wr W2 := by rw [← hW2]; exact balloc (Below.refl _ _) _
      have hNb : Blk W2 wr.heap.size 25 (Wc x) := by rw [← hW2]; exact Blk.new _ _ _
      have hj2 : J (l.take k) W2.drew := HA.out.2.2.2.2.1 _ _ (by rw [← hW2]; exact HA.out.2.2.2.1 _ _ _ hj)
      have hW2s : wr.heap.size ≤ W2.heap.size := hal.size
      have hX2 : Below X0.heap.size X0 W2.drew := below_drew' (hX0.trans (hal.mono hX0.size))
      have hb2 : Below n₀ w W2.drew := below_drew' (hbl.trans (hal.mono (Nat.le_trans HA.out.2.1 hsz)))
      have HX := Lib.hid (And.intro hj2 (And.intro (Nat.le_trans hsz hW2s) (And.intro hb2 (And.intro hX2 hNb))))
      have HW2 := Lib.hid hW2
      have htk := take_suc hx
      have HH := Lib.hid (And.intro hx hxM)
      clear hX0 hcell hcl hal hNb hj2 hW2s hX2 hb2 hW2 hj hsz hbl hx hxM
      have g1 : IntKind.i64.wrap ((k : Int) + 1) = ((k + 1 : Nat) : Int) := IntWalk.i64_in _ (by omega)
      clear htk
      gi_wp2_with fail
      rw [HW2.out]
      obtain ⟨hj2, hs2, hb2, hX2, hNb⟩ := HX.out
      have cM := cell_of_row _ _ 0 _ _ _ (HK0.out _ hX2).1
      have hlk := (HK0.out _ hX2).2.look und_mp x HH.out.2 false
      simp only [Bool.false_eq_true, if_false] at hlk
      have hNd : Blk W2.drew wr.heap.size 25 (Wc x) := hNb
      have k0 := cell_of_row _ _ 0 _ _ _ hNd
      have k1 := cell_of_row _ _ 1 _ _ _ hNd
      have k2 := cell_of_row _ _ 2 _ _ _ hNd
      have k3 := cell_of_row _ _ 3 _ _ _ hNd
      obtain ⟨fn, tmps, assign, body, hy, hRd⟩ := YieldAt.wide (m' := n - 1) (HY.out k x W2.drew HH.out.1 hj2)
      have hs3 : w.heap.size ≤ W2.drew.heap.size := hs2
      have HZ := Lib.hid (And.intro hs3 hb2)
      have HRD := Lib.hid hRd
      clear hj2 hs2 hb2 hX2 hNb hNd hRd hs3 d0 d1 d2 d3
      refine wpIn_noPanic ?_
      refine wpIn_region_any (by kernel_rfl) ?_
      obtain ⟨WD, hWD⟩ : ∃ WD, ({ W2 with drawn := W2.drawn + 1 } : World) = WD := ⟨_, rfl⟩
      have hWD' : W2.drew = WD := hWD
      rw [hWD]
      rw [hWD'] at HZ HRD hy cM hlk k0 k1 k2 k3
      clear hWD hWD'
      refine wpAnyIn_take (i := 0) (v := ?vq0) rfl rfl (by kernel_rfl) (by kernel_rfl) (by kernel_rfl) (fun _ _ _ h => h) ⟨Or.inl ⟨by rfl, ?yq0⟩, fun _ => rfl⟩ ?rq0
      case yq0 => (intro w; go_simp <;> with_reducible rfl)
      refine wpAnyIn_ready (rs := [1, 2, 3]) (by kernel_rfl) (by simp) ?_
      refine AllReadyIn.cons rfl (fun K hK => ?_) (AllReadyIn.cons rfl (fun K hK => ?_) (AllReadyIn.cons rfl (fun K hK => ?_) (AllReadyIn.nil)))
      · go_simp
        refine hK _ _ ?_
        clear hK K
        refine wpAnyIn_ready (rs := [2, 3]) (by kernel_rfl) (by simp) ?_
        refine AllReadyIn.cons rfl (fun K hK => ?_) (AllReadyIn.cons rfl (fun K hK => ?_) (AllReadyIn.nil))
        · go_simp
          refine hK _ _ ?_
          clear hK K
          refine wpAnyIn_ready (rs := [3]) (by kernel_rfl) (by simp) ?_
          refine AllReadyIn.cons rfl (fun K hK => ?_) (AllReadyIn.nil)
          go_simp
          refine hK _ _ ?_
          clear hK K
          refine wpAnyIn_ready (rs := [4]) (by kernel_rfl) (by simp) ?_
          refine AllReadyIn.cons rfl (fun K hK => ?_) (AllReadyIn.nil)
          go_simp
          refine hK _ _ ?_
          clear hK K
          refine wpAnyIn_ready (rs := [5]) (by kernel_rfl) (by simp) ?_
          refine AllReadyIn.cons rfl (fun K hK => ?_) (AllReadyIn.nil)
          go_simp
          refine ⟨fun _ => by omega, HRD.out.mono ?_⟩
          rintro e Y hye
          obtain ⟨bb, rfl, hYb⟩ := yQut hye
          clear hye
          refine hK _ _ ?_
          clear hK K
          refine wpAnyIn_take (i := 6) (v := ?vq1) rfl rfl (by kernel_rfl) (by kernel_rfl) (by kernel_rfl) (fun _ _ _ h => h) ⟨Or.inl ⟨by rfl, ?yq1⟩, fun _ => rfl⟩ ?rq1
          case yq1 => (intro w; go_simp <;> with_reducible rfl)
          refine wpAnyIn_done (by kernel_rfl) ?_ _
          simp only [Act.put, List.getElem_toArray, List.getElem_cons_succ, List.getElem_cons_zero, List.setIfInBounds_toArray, List.set_cons_zero, List.set_cons_succ]
          simp only [noPanicIn]
          cases bb with
          | true =>
            obtain ⟨hj, hs, hb⟩ := hYb.1 rfl
            have HE := Lib.hid (And.intro hj (And.intro hs hb))
            clear hj hs hb hYb hy k0 k1 k2 k3 cM hlk HX
            gi_wp2_with fail
            refine ⟨⟨k + 1, by go_num, by omega, by rw [take_suc HH.out.1]; exact HE.out.1, Nat.le_trans HZ.out.1 HE.out.2.1, HZ.out.2.trans HE.out.2.2⟩, by simp [intOf]; omega⟩
          | false =>
            have HE := Lib.hid (hYb.2 rfl)
            clear hYb hy k0 k1 k2 k3 cM hlk HX
            gi_wp2_with fail
            exact ⟨_, results_none rfl _ _ _, ⟨_, rfl⟩, .inr ⟨k, by rw [HN.out]; omega, by rw [take_suc HH.out.1]; exact HE.out⟩⟩
        · go_simp
          refine hK _ _ ?_
          clear hK K
          refine wpAnyIn_ready (rs := [2]) (by kernel_rfl) (by simp) ?_
          refine AllReadyIn.cons rfl (fun K hK => ?_) (AllReadyIn.nil)
          go_simp
          refine hK _ _ ?_
          clear hK K
          refine wpAnyIn_ready (rs := [4]) (by kernel_rfl) (by simp) ?_
          refine AllReadyIn.cons rfl (fun K hK => ?_) (AllReadyIn.nil)
          go_simp
          refine hK _ _ ?_
          clear hK K
          refine wpAnyIn_ready (rs := [5]) (by kernel_rfl) (by simp) ?_
          refine AllReadyIn.cons rfl (fun K hK => ?_) (AllReadyIn.nil)
          go_simp
          refine ⟨fun _ => by omega, HRD.out.mono ?_⟩
          rintro e Y hye
          obtain ⟨bb, rfl, hYb⟩ := yQut hye
          clear hye
          refine hK _ _ ?_
          clear hK K
          refine wpAnyIn_take (i := 6) (v := ?vq2) rfl rfl (by kernel_rfl) (by kernel_rfl) (by kernel_rfl) (fun _ _ _ h => h) ⟨Or.inl ⟨by rfl, ?yq2⟩, fun _ => rfl⟩ ?rq2
          case yq2 => (intro w; go_simp <;> with_reducible rfl)
          refine wpAnyIn_done (by kernel_rfl) ?_ _
          simp only [Act.put, List.getElem_toArray, List.getElem_cons_succ, List.getElem_cons_zero, List.setIfInBounds_toArray, List.set_cons_zero, List.set_cons_succ]
          simp only [noPanicIn]
          cases bb with
          | true =>
            obtain ⟨hj, hs, hb⟩ := hYb.1 rfl
            have HE := Lib.hid (And.intro hj (And.intro hs hb))
            clear hj hs hb hYb hy k0 k1 k2 k3 cM hlk HX
            gi_wp2_with fail
            refine ⟨⟨k + 1, by go_num, by omega, by rw [take_suc HH.out.1]; exact HE.out.1, Nat.le_trans HZ.out.1 HE.out.2.1, HZ.out.2.trans HE.out.2.2⟩, by simp [intOf]; omega⟩
          | false =>
            have HE := Lib.hid (hYb.2 rfl)
            clear hYb hy k0 k1 k2 k3 cM hlk HX
            gi_wp2_with fail
            exact ⟨_, results_none rfl _ _ _, ⟨_, rfl⟩, .inr ⟨k, by rw [HN.out]; omega, by rw [take_suc HH.out.1]; exact HE.out⟩⟩
      · go_simp
        refine hK _ _ ?_
        clear hK K
        refine wpAnyIn_ready (rs := [1, 3]) (by kernel_rfl) (by simp) ?_
        refine AllReadyIn.cons rfl (fun K hK => ?_) (AllReadyIn.cons rfl (fun K hK => ?_) (AllReadyIn.nil))
        · go_simp
          refine hK _ _ ?_
          clear hK K
          refine wpAnyIn_ready (rs := [3]) (by kernel_rfl) (by simp) ?_
          refine AllReadyIn.cons rfl (fun K hK => ?_) (AllReadyIn.nil)
          go_simp
          refine hK _ _ ?_
          clear hK K
          refine wpAnyIn_ready (rs := [4]) (by kernel_rfl) (by simp) ?_
          refine AllReadyIn.cons rfl (fun K hK => ?_) (AllReadyIn.nil)
          go_simp
          refine hK _ _ ?_
          clear hK K
          refine wpAnyIn_ready (rs := [5]) (by kernel_rfl) (by simp) ?_
          refine AllReadyIn.cons rfl (fun K hK => ?_) (AllReadyIn.nil)
          go_simp
          refine ⟨fun _ => by omega, HRD.out.mono ?_⟩
          rintro e Y hye
          obtain ⟨bb, rfl, hYb⟩ := yQut hye
          clear hye
          refine hK _ _ ?_
          clear hK K
          refine wpAnyIn_take (i := 6) (v := ?vq3) rfl rfl (by kernel_rfl) (by kernel_rfl) (by kernel_rfl) (fun _ _ _ h => h) ⟨Or.inl ⟨by rfl, ?yq3⟩, fun _ => rfl⟩ ?rq3
          case yq3 => (intro w; go_simp <;> with_reducible rfl)
          refine wpAnyIn_done (by kernel_rfl) ?_ _
          simp only [Act.put, List.getElem_toArray, List.getElem_cons_succ, List.getElem_cons_zero, List.setIfInBounds_toArray, List.set_cons_zero, List.set_cons_succ]
          simp only [noPanicIn]
          cases bb with
          | true =>
            obtain ⟨hj, hs, hb⟩ := hYb.1 rfl
            have HE := Lib.hid (And.intro hj (And.intro hs hb))
            clear hj hs hb hYb hy k0 k1 k2 k3 cM hlk HX
            gi_wp2_with fail
            refine ⟨⟨k + 1, by go_num, by omega, by rw [take_suc HH.out.1]; exact HE.out.1, Nat.le_trans HZ.out.1 HE.out.2.1, HZ.out.2.trans HE.out.2.2⟩, by simp [intOf]; omega⟩
          | false =>
            have HE := Lib.hid (hYb.2 rfl)
            clear hYb hy k0 k1 k2 k3 cM hlk HX
            gi_wp2_with fail
            exact ⟨_, results_none rfl _ _ _, ⟨_, rfl⟩, .inr ⟨k, by rw [HN.out]; omega, by rw [take_suc HH.out.1]; exact HE.out⟩⟩
        · go_simp
          refine hK _ _ ?_
          clear hK K
          refine wpAnyIn_ready (rs := [1, 4]) (by kernel_rfl) (by simp) ?_
          refine AllReadyIn.cons rfl (fun K hK => ?_) (AllReadyIn.cons rfl (fun K hK => ?_) (AllReadyIn.nil))
          · go_simp
            refine hK _ _ ?_
            clear hK K
            refine wpAnyIn_ready (rs := [4]) (by kernel_rfl) (by simp) ?_
            refine AllReadyIn.cons rfl (fun K hK => ?_) (AllReadyIn.nil)
            go_simp
            refine hK _ _ ?_
            clear hK K
            refine wpAnyIn_ready (rs := [5]) (by kernel_rfl) (by simp) ?_
            refine AllReadyIn.cons rfl (fun K hK => ?_) (AllReadyIn.nil)
            go_simp
            refine ⟨fun _ => by omega, HRD.out.mono ?_⟩
            rintro e Y hye
            obtain ⟨bb, rfl, hYb⟩ := yQut hye
            clear hye
            refine hK _ _ ?_
            clear hK K
            refine wpAnyIn_take (i := 6) (v := ?vq4) rfl rfl (by kernel_rfl) (by kernel_rfl) (by kernel_rfl) (fun _ _ _ h => h) ⟨Or.inl ⟨by rfl, ?yq4⟩, fun _ => rfl⟩ ?rq4
            case yq4 => (intro w; go_simp <;> with_reducible rfl)
            refine wpAnyIn_done (by kernel_rfl) ?_ _
            simp only [Act.put, List.getElem_toArray, List.getElem_cons_succ, List.getElem_cons_zero, List.setIfInBounds_toArray, List.set_cons_zero, List.set_cons_succ]
            simp only [noPanicIn]
            cases bb with
            | true =>
              obtain ⟨hj, hs, hb⟩ := hYb.1 rfl
              have HE := Lib.hid (And.intro hj (And.intro hs hb))
              clear hj hs hb hYb hy k0 k1 k2 k3 cM hlk HX
              gi_wp2_with fail
              refine ⟨⟨k + 1, by go_num, by omega, by rw [take_suc HH.out.1]; exact HE.out.1, Nat.le_trans HZ.out.1 HE.out.2.1, HZ.out.2.trans HE.out.2.2⟩, by simp [intOf]; omega⟩
            | false =>
              have HE := Lib.hid (hYb.2 rfl)
              clear hYb hy k0 k1 k2 k3 cM hlk HX
              gi_wp2_with fail
              exact ⟨_, results_none rfl _ _ _, ⟨_, rfl⟩, .inr ⟨k, by rw [HN.out]; omega, by rw [take_suc HH.out.1]; exact HE.out⟩⟩
          · go_simp
            refine hK _ _ ?_
            clear hK K
            refine wpAnyIn_ready (rs := [1]) (by kernel_rfl) (by simp) ?_
            refine AllReadyIn.cons rfl (fun K hK => ?_) (AllReadyIn.nil)
            go_simp
            refine hK _ _ ?_
            clear hK K
            refine wpAnyIn_ready (rs := [5]) (by kernel_rfl) (by simp) ?_
            refine AllReadyIn.cons rfl (fun K hK => ?_) (AllReadyIn.nil)
            go_simp
            refine ⟨fun _ => by omega, HRD.out.mono ?_⟩
            rintro e Y hye
            obtain ⟨bb, rfl, hYb⟩ := yQut hye
            clear hye
            refine hK _ _ ?_
            clear hK K
            refine wpAnyIn_take (i := 6) (v := ?vq5) rfl rfl (by kernel_rfl) (by kernel_rfl) (by kernel_rfl) (fun _ _ _ h => h) ⟨Or.inl ⟨by rfl, ?yq5⟩, fun _ => rfl⟩ ?rq5
            case yq5 => (intro w; go_simp <;> with_reducible rfl)
            refine wpAnyIn_done (by kernel_rfl) ?_ _
            simp only [Act.put, List.getElem_toArray, List.getElem_cons_succ, List.getElem_cons_zero, List.setIfInBounds_toArray, List.set_cons_zero, List.set_cons_succ]
            simp only [noPanicIn]
            cases bb with
            | true =>
              obtain ⟨hj, hs, hb⟩ := hYb.1 rfl
              have HE := Lib.hid (And.intro hj (And.intro hs hb))
              clear hj hs hb hYb hy k0 k1 k2 k3 cM hlk HX
              gi_wp2_with fail
              refine ⟨⟨k + 1, by go_num, by omega, by rw [take_suc HH.out.1]; exact HE.out.1, Nat.le_trans HZ.out.1 HE.out.2.1, HZ.out.2.trans HE.out.2.2⟩, by simp [intOf]; omega⟩
            | false =>
              have HE := Lib.hid (hYb.2 rfl)
              clear hYb hy k0 k1 k2 k3 cM hlk HX
              gi_wp2_with fail
              exact ⟨_, results_none rfl _ _ _, ⟨_, rfl⟩, .inr ⟨k, by rw [HN.out]; omega, by rw [take_suc HH.out.1]; exact HE.out⟩⟩
      · go_simp
        refine hK _ _ ?_
        clear hK K
        refine wpAnyIn_ready (rs := [1, 2]) (by kernel_rfl) (by simp) ?_
        refine AllReadyIn.cons rfl (fun K hK => ?_) (AllReadyIn.cons rfl (fun K hK => ?_) (AllReadyIn.nil))
        · go_simp
          refine hK _ _ ?_
          clear hK K
          refine wpAnyIn_ready (rs := [2]) (by kernel_rfl) (by simp) ?_
          refine AllReadyIn.cons rfl (fun K hK => ?_) (AllReadyIn.nil)
          go_simp
          refine hK _ _ ?_
          clear hK K
          refine wpAnyIn_ready (rs := [4]) (by kernel_rfl) (by simp) ?_
          refine AllReadyIn.cons rfl (fun K hK => ?_) (AllReadyIn.nil)
          go_simp
          refine hK _ _ ?_
          clear hK K
          refine wpAnyIn_ready (rs := [5]) (by kernel_rfl) (by simp) ?_
          refine AllReadyIn.cons rfl (fun K hK => ?_) (AllReadyIn.nil)
          go_simp
          refine ⟨fun _ => by omega, HRD.out.mono ?_⟩
          rintro e Y hye
          obtain ⟨bb, rfl, hYb⟩ := yQut hye
          clear hye
          refine hK _ _ ?_
          clear hK K
          refine wpAnyIn_take (i := 6) (v := ?vq6) rfl rfl (by kernel_rfl) (by kernel_rfl) (by kernel_rfl) (fun _ _ _ h => h) ⟨Or.inl ⟨by rfl, ?yq6⟩, fun _ => rfl⟩ ?rq6
          case yq6 => (intro w; go_simp <;> with_reducible rfl)
          refine wpAnyIn_done (by kernel_rfl) ?_ _
          simp only [Act.put, List.getElem_toArray, List.getElem_cons_succ, List.getElem_cons_zero, List.setIfInBounds_toArray, List.set_cons_zero, List.set_cons_succ]
          simp only [noPanicIn]
          cases bb with
          | true =>
            obtain ⟨hj, hs, hb⟩ := hYb.1 rfl
            have HE := Lib.hid (And.intro hj (And.intro hs hb))
            clear hj hs hb hYb hy k0 k1 k2 k3 cM hlk HX
            gi_wp2_with fail
            refine ⟨⟨k + 1, by go_num, by omega, by rw [take_suc HH.out.1]; exact HE.out.1, Nat.le_trans HZ.out.1 HE.out.2.1, HZ.out.2.trans HE.out.2.2⟩, by simp [intOf]; omega⟩
          | false =>
            have HE := Lib.hid (hYb.2 rfl)
            clear hYb hy k0 k1 k2 k3 cM hlk HX
            gi_wp2_with fail
            exact ⟨_, results_none rfl _ _ _, ⟨_, rfl⟩, .inr ⟨k, by rw [HN.out]; omega, by rw [take_suc HH.out.1]; exact HE.out⟩⟩
        · go_simp
          refine hK _ _ ?_
          clear hK K
          refine wpAnyIn_ready (rs := [1, 4]) (by kernel_rfl) (by simp) ?_
          refine AllReadyIn.cons rfl (fun K hK => ?_) (AllReadyIn.cons rfl (fun K hK => ?_) (AllReadyIn.nil))
          · go_simp
            refine hK _ _ ?_
            clear hK K
            refine wpAnyIn_ready (rs := [4]) (by kernel_rfl) (by simp) ?_
            refine AllReadyIn.cons rfl (fun K hK => ?_) (AllReadyIn.nil)
            go_simp
            refine hK _ _ ?_
            clear hK K
            refine wpAnyIn_ready (rs := [5]) (by kernel_rfl) (by simp) ?_
            refine AllReadyIn.cons rfl (fun K hK => ?_) (AllReadyIn.nil)
            go_simp
            refine ⟨fun _ => by omega, HRD.out.mono ?_⟩
            rintro e Y hye
            obtain ⟨bb, rfl, hYb⟩ := yQut hye
            clear hye
            refine hK _ _ ?_
            clear hK K
            refine wpAnyIn_take (i := 6) (v := ?vq7) rfl rfl (by kernel_rfl) (by kernel_rfl) (by kernel_rfl) (fun _ _ _ h => h) ⟨Or.inl ⟨by rfl, ?yq7⟩, fun _ => rfl⟩ ?rq7
            case yq7 => (intro w; go_simp <;> with_reducible rfl)
            refine wpAnyIn_done (by kernel_rfl) ?_ _
            simp only [Act.put, List.getElem_toArray, List.getElem_cons_succ, List.getElem_cons_zero, List.setIfInBounds_toArray, List.set_cons_zero, List.set_cons_succ]
            simp only [noPanicIn]
            cases bb with
            | true =>
              obtain ⟨hj, hs, hb⟩ := hYb.1 rfl
              have HE := Lib.hid (And.intro hj (And.intro hs hb))
              clear hj hs hb hYb hy k0 k1 k2 k3 cM hlk HX
              gi_wp2_with fail
              refine ⟨⟨k + 1, by go_num, by omega, by rw [take_suc HH.out.1]; exact HE.out.1, Nat.le_trans HZ.out.1 HE.out.2.1, HZ.out.2.trans HE.out.2.2⟩, by simp [intOf]; omega⟩
            | false =>
              have HE := Lib.hid (hYb.2 rfl)
              clear hYb hy k0 k1 k2 k3 cM hlk HX
              gi_wp2_with fail
              exact ⟨_, results_none rfl _ _ _, ⟨_, rfl⟩, .inr ⟨k, by rw [HN.out]; omega, by rw [take_suc HH.out.1]; exact HE.out⟩⟩
          · go_simp
            refine hK _ _ ?_
            clear hK K
            refine wpAnyIn_ready (rs := [1]) (by kernel_rfl) (by simp) ?_
            refine AllReadyIn.cons rfl (fun K hK => ?_) (AllReadyIn.nil)
            go_simp
            refine hK _ _ ?_
            clear hK K
            refine wpAnyIn_ready (rs := [5]) (by kernel_rfl) (by simp) ?_
            refine AllReadyIn.cons rfl (fun K hK => ?_) (AllReadyIn.nil)
            go_simp
            refine ⟨fun _ => by omega, HRD.out.mono ?_⟩
            rintro e Y hye
            obtain ⟨bb, rfl, hYb⟩ := yQut hye
            clear hye
            refine hK _ _ ?_
            clear hK K
            refine wpAnyIn_take (i := 6) (v := ?vq8) rfl rfl (by kernel_rfl) (by kernel_rfl) (by kernel_rfl) (fun _ _ _ h => h) ⟨Or.inl ⟨by rfl, ?yq8⟩, fun _ => rfl⟩ ?rq8
            case yq8 => (intro w; go_simp <;> with_reducible rfl)
            refine wpAnyIn_done (by kernel_rfl) ?_ _
            simp only [Act.put, List.getElem_toArray, List.getElem_cons_succ, List.getElem_cons_zero, List.setIfInBounds_toArray, List.set_cons_zero, List.set_cons_succ]
            simp only [noPanicIn]
            cases bb with
            | true =>
              obtain ⟨hj, hs, hb⟩ := hYb.1 rfl
              have HE := Lib.hid (And.intro hj (And.intro hs hb))
              clear hj hs hb hYb hy k0 k1 k2 k3 cM hlk HX
              gi_wp2_with fail
              refine ⟨⟨k + 1, by go_num, by omega, by rw [take_suc HH.out.1]; exact HE.out.1, Nat.le_trans HZ.out.1 HE.out.2.1, HZ.out.2.trans HE.out.2.2⟩, by simp [intOf]; omega⟩
            | false =>
              have HE := Lib.hid (hYb.2 rfl)
              clear hYb hy k0 k1 k2 k3 cM hlk HX
              gi_wp2_with fail
              exact ⟨_, results_none rfl _ _ _, ⟨_, rfl⟩, .inr ⟨k, by rw [HN.out]; omega, by rw [take_suc HH.out.1]; exact HE.out⟩⟩
    · obtain rfl : k = N := by omega
      have hnl : ¬ ((k : Int) < (k : Int)) := by omega
      have HK := Lib.hid hj
      clear hj hbl
      gi_wp2_with fail
      exact ⟨_, results_none rfl _ _ _, ⟨_, rfl⟩, .inl (by have h := HK.out; rwa [List.take_of_length_le (by rw [HN.out]; exact Nat.le_refl _)] at h)⟩

end Go.Proofs.Ytcfnhilcpfiocaa
