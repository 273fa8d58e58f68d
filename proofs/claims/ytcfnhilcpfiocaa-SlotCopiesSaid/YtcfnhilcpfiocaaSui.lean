/- slot's laws: act. -/
import Derived.Test.YtcfnhilcpfiocaaSuh
import Derived.Test.YtcfnhilcpfiocaaStp
import Derived.Test.YtcfnhilcpfiocaaSts
import Derived.Test.YtcfnhilcpfiocaaStn
namespace Go.Proofs.Ytcfnhilcpfiocaa
open Go.RowKit Go.Shelf Go.ChangeMaps Go.MapKept

theorem OwR.apart {X : World} {b g : Nat} {v : Value} {l : List Rw} {o : Obj} (h : OwR X b v l) (hb : X.heap[g]? = some o) (ho : ∀ cs fr, o ≠ .cells cs 59 fr) : v.ownBlock ≠ some g := by
  intro e
  rcases h.2.2 with ⟨rfl, _⟩ | ⟨g', cap, cur, rfl, _, hg, _⟩
  · cases e
  · have : g' = g := by simpa [Value.ownBlock] using e
    subst this
    rw [hg] at hb
    exact ho _ _ (Option.some.inj hb).symm
theorem OwR.chg {X Y : World} {b g bv : Nat} {v : Value} {l : List Rw} {cs : Array Value} {m : Nat → Option (Nat × Nat)} (h : OwR X b v l) (hg : Blk X g 44 cs) (hb : Mp X bv m) (hc : Chg (fun k => k = g ∨ k = bv) X Y) : OwR Y b v l := by
  obtain ⟨es, ck, hm, _⟩ := hb
  have n1 := h.apart hg (fun cs fr e => by injection e with _ e; exact absurd e (by decide))
  have n2 := h.apart hm (fun cs fr e => by cases e)
  refine ⟨h.1, h.2.1, ?_⟩
  rcases h.2.2 with h0 | ⟨g', cap, cur, rfl, p1, p2, p3⟩
  · exact .inl h0
  · have hne : g' ≠ g ∧ g' ≠ bv := ⟨fun e => n1 (by rw [← e]; rfl), fun e => n2 (by rw [← e]; rfl)⟩
    exact .inr ⟨g', cap, cur, rfl, p1, (hc.block g' (Array.getElem?_eq_some_iff.1 p2).1 (fun e => e.elim hne.1 hne.2)).trans p2, p3⟩
/-- A storage, the document's rows beside it; all of it behind D. -/
def StW (D : Nat) (X : World) (p : Value) (r : Value) (l : List Rw) : Prop := ∃ g bv bw many fv fw, p = .pointer (some ⟨g, 0, none⟩) ∧ SlB X g bv bw fv fw many ∧ OwR X D r l ∧ Rel fv fw l ∧ Cnt (lk2 fv fw) many ∧ D ≤ g ∧ D ≤ bv ∧ D ≤ bw
/-- The same, the storage's blocks by name. -/
def StG (D : Nat) (X : World) (g bv bw : Nat) (p : Value) (r : Value) (l : List Rw) : Prop := ∃ many fv fw, p = .pointer (some ⟨g, 0, none⟩) ∧ SlB X g bv bw fv fw many ∧ OwR X D r l ∧ Rel fv fw l ∧ Cnt (lk2 fv fw) many ∧ D ≤ g ∧ D ≤ bv ∧ D ≤ bw
theorem StG.w {D : Nat} {X : World} {g bv bw : Nat} {p r : Value} {l : List Rw} (h : StG D X g bv bw p r l) : StW D X p r l := by
  obtain ⟨many, fv, fw, h⟩ := h
  exact ⟨g, bv, bw, many, fv, fw, h⟩
/-- What the call makes of the document's rows. -/
def acL (l : List Rw) (z : Int) (y : Nat) (v : Nat × Nat) : List Rw := if z = 0 ∨ z = 1 then putL l y v else if z = 2 then settleL l else l
theorem ret_act {fn : Func} {tmps : Array Value} {X : World} {g : Nat} {u : Value} (h : fn.results = #[.tmp 6, .cell 7 31, .tmp 8]) (hp : tmps.getD 7 undef = .pointer (some ⟨g, 0, none⟩)) (hb : Blk X g 31 #[u]) : (results fn tmps).run Try.prog X = .ok (.tuple #[tmps.getD 6 undef, .agg #[u], tmps.getD 8 undef]) X := by
  have hr := run_loadVar_row (P := Try.prog) X g 31 31 #[u] (0, 0) _ hb Try.underlying31 rfl (by rw [info_sl]; rfl)
  have hc : (results fn tmps).run Try.prog X = ((asAddr (tmps.getD 7 undef)).run Try.prog X).andThen fun a w₁ => ((loadVar 31 a).run Try.prog w₁).andThen fun v w₂ => .ok (.tuple #[tmps.getD 6 undef, v, tmps.getD 8 undef]) w₂ := by
    simp only [results, h]
    simp [Sem.run_bind, Result.andThen]
  rw [hc, hp]
  simp [asAddr, Result.andThen, hr]
theorem box_ne {X : World} {b g : Nat} {t u : TypeId} {cs ds : Array Value} (h : Blk X b t cs) (k : Blk X g u ds) (hne : t ≠ u) : b ≠ g := by
  rintro rfl
  unfold Blk at h k
  rw [h] at k
  injection k with k
  injection k with _ k
  exact hne k
theorem SlB.box {X Y : World} {g bv bw b many : Nat} {fv fw : Nat → Option (Nat × Nat)} {cs : Array Value} {M : Nat → Prop} (hs : SlB X g bv bw fv fw many) (h : Blk X b 31 cs) (hc : Chg M X Y) (hM : ∀ k, M k → k = g ∨ k = bv ∨ k = bw) : Blk Y b 31 cs := by
  have e0 := box_ne h hs.1 (by decide)
  have e1 := blk_ne_map h hs.2.1
  have e2 := blk_ne_map h hs.2.2.1
  exact h.chg hc (fun hm => by rcases hM _ hm with e | e | e; exact e0 e; exact e1 e; exact e2 e)
theorem act_end {D b h2 g bv bw m : Nat} {M : Nat → Prop} {F1 F2 : Nat → Option (Nat × Nat)} {w Z : World} {u c0 : Value} {L : List Rw} (ho : OwR Z b u L) (hb : D ≤ b) (hs : SlB Z g bv bw F1 F2 m) (hk : Blk Z h2 31 #[c0]) (hrel : Rel F1 F2 L) (hcnt : Cnt (lk2 F1 F2) m) (hD : D ≤ g ∧ D ≤ bv ∧ D ≤ bw) (hg : g ≠ h2) (hC : Chg M w Z) (hw2 : w.heap.size ≤ h2) :
    StG D (Z.setCell ⟨h2, 0, none⟩ u) g bv bw (.pointer (some ⟨g, 0, none⟩)) u L ∧ Chg M w (Z.setCell ⟨h2, 0, none⟩ u) ∧ Blk (Z.setCell ⟨h2, 0, none⟩ u) h2 31 #[u] := by
  have hgr := grown_set' (grown_refl Z h2) 0 u
  have hc := Chg.of hgr
  have e1 := blk_ne_map hk hs.2.1
  have e2 := blk_ne_map hk hs.2.2.1
  have e3 := ho.apart hk (fun cs fr e => by injection e with _ e; exact absurd e (by decide))
  have hne : ∀ k, k ≠ h2 → ¬ (some k = some h2) := fun k hk e => hk (Option.some.inj e)
  exact ⟨⟨m, F1, F2, rfl, hs.chg hc (hne _ hg) (hne _ (Ne.symm e1)) (hne _ (Ne.symm e2)), ⟨ho.1, (World.ownsRow.kept ho.2 hgr (.inr e3)).mono hb⟩, hrel, hcnt, hD⟩, hC.set h2 0 u (fun h => by omega), heap_setCell_same _ _ 0 _ _ _ hk⟩
set_option maxRecDepth 100000 in
set_option maxHeartbeats 4000000 in
theorem act_far (D g bv bw : Nat) (p r : Value) (l : List Rw) (z : Int) (y : Nat) (hy : y < MM) (v : Nat × Nat) (hv : okP v) (w : World) (hD : D ≤ w.heap.size) (h : StG D w g bv bw p r l) (hll : l.length ≤ 1000) (hmany : ∀ many, (allL l).length = many → many ≤ 1000000) :
    Calls Try.prog 8 #[p, .agg #[r], .agg #[.int .i64 z, .int .u64 (lb y 0), .int .u64 (lb y 1), .int .u64 (lb y 2), .int .u64 (lb y 3), .int .u64 (lb v.1 0), .int .u64 (lb v.1 1), .int .u64 (lb v.1 2), .int .u64 (lb v.1 3), .int .u64 (v.2 : Nat)]] w fun e w' => ∃ p' r' g' bv' bw', e = .returned (.tuple #[p', .agg #[r'], .bool true]) ∧ StG D w' g' bv' bw' p' r' (acL l z y v) ∧ Chg (fun k => k = g ∨ k = bv) w w' ∧ (g' = g ∨ w.heap.size ≤ g') ∧ (bv' = bv ∨ w.heap.size ≤ bv') ∧ (bw' = bw ∨ w.heap.size ≤ bw') := by
  obtain ⟨many, fv, fw, rfl, hs, ho, hrel, hcnt, hg1, hg2, hg3⟩ := h
  obtain ⟨xs, cs, rfl⟩ := ho.is
  obtain ⟨n, hn⟩ : ∃ n, l.length = n := ⟨_, rfl⟩
  obtain ⟨X, hX⟩ : ∃ X, ((w.alloc (.cells #[.slice xs n cs] 31)).alloc (.cells #[.int .i64 z, .int .u64 (lb y 0), .int .u64 (lb y 1), .int .u64 (lb y 2), .int .u64 (lb y 3), .int .u64 (lb v.1 0), .int .u64 (lb v.1 1), .int .u64 (lb v.1 2), .int .u64 (lb v.1 3), .int .u64 (v.2 : Nat)] 38)).alloc (.cells #[.slice none 0 0] 31) = X := ⟨_, rfl⟩
  have hB : Below w.heap.size w X := by rw [← hX]; exact balloc (balloc (balloc (Below.refl _ _) _) _) _
  have b0 : Blk X w.heap.size 31 #[.slice xs n cs] := by rw [← hX]; exact ((Blk.new _ _ _).alloc _).alloc _
  have b1 : Blk X (w.heap.size + 1) 38 #[.int .i64 z, .int .u64 (lb y 0), .int .u64 (lb y 1), .int .u64 (lb y 2), .int .u64 (lb y 3), .int .u64 (lb v.1 0), .int .u64 (lb v.1 1), .int .u64 (lb v.1 2), .int .u64 (lb v.1 3), .int .u64 (v.2 : Nat)] := by rw [← hX]; exact (Blk.newS _ _ _ _).alloc _
  have b2 : Blk X (w.heap.size + 2) 31 #[.slice none 0 0] := by
    rw [← hX]
    have h := Blk.newS (w.alloc (.cells #[.slice xs n cs] 31)) (.cells #[.int .i64 z, .int .u64 (lb y 0), .int .u64 (lb y 1), .int .u64 (lb y 2), .int .u64 (lb y 3), .int .u64 (lb v.1 0), .int .u64 (lb v.1 1), .int .u64 (lb v.1 2), .int .u64 (lb v.1 3), .int .u64 (v.2 : Nat)] 38) 31 #[.slice none 0 0]
    rwa [World.size_alloc] at h
  have hsX := hs.keep hB
  have HX := Lib.hid (And.intro b0 (And.intro b1 (And.intro b2 (And.intro hX hB))))
  have HS := Lib.hid (And.intro hsX (And.intro hrel (And.intro hcnt (And.intro hg1 (And.intro hg2 hg3)))))
  have HG := Lib.hid (show g < w.heap.size ∧ bv < w.heap.size ∧ bw < w.heap.size from ⟨hs.1.lt, hs.2.1.lt, hs.2.2.1.lt⟩)
  have HO := Lib.hid (fun Y (hc : Chg (fun k => k = g ∨ k = bv) X Y) => (ho.keep hB).chg hsX.1 hsX.2.1 hc)
  have HP := Lib.hid (sput_any g bv bw many fv fw y hy v hv (hmany many (hrel.len hcnt)) (hcnt.pos y) X hsX)
  have HT := Lib.hid (settle_any g bv bw many fv fw X hsX)
  have HC := Lib.hid (copy_any g bv bw many fv fw X hsX)
  have c0 : X.cell? ⟨w.heap.size, 0, none⟩ = some (.slice xs n cs) := cell_of_row _ _ 0 _ _ _ b0
  have k0 : X.cell? ⟨w.heap.size + 1, 0, none⟩ = some (.int .i64 z) := cell_of_row _ _ 0 _ _ _ b1
  have k1 : X.cell? ⟨w.heap.size + 1, 1, none⟩ = some (.int .u64 (lb y 0)) := cell_of_row _ _ 1 _ _ _ b1
  have k2 : X.cell? ⟨w.heap.size + 1, 2, none⟩ = some (.int .u64 (lb y 1)) := cell_of_row _ _ 2 _ _ _ b1
  have k3 : X.cell? ⟨w.heap.size + 1, 3, none⟩ = some (.int .u64 (lb y 2)) := cell_of_row _ _ 3 _ _ _ b1
  have k4 : X.cell? ⟨w.heap.size + 1, 4, none⟩ = some (.int .u64 (lb y 3)) := cell_of_row _ _ 4 _ _ _ b1
  have k5 : X.cell? ⟨w.heap.size + 1, 5, none⟩ = some (.int .u64 (lb v.1 0)) := cell_of_row _ _ 5 _ _ _ b1
  have k6 : X.cell? ⟨w.heap.size + 1, 6, none⟩ = some (.int .u64 (lb v.1 1)) := cell_of_row _ _ 6 _ _ _ b1
  have k7 : X.cell? ⟨w.heap.size + 1, 7, none⟩ = some (.int .u64 (lb v.1 2)) := cell_of_row _ _ 7 _ _ _ b1
  have k8 : X.cell? ⟨w.heap.size + 1, 8, none⟩ = some (.int .u64 (lb v.1 3)) := cell_of_row _ _ 8 _ _ _ b1
  have k9 : X.cell? ⟨w.heap.size + 1, 9, none⟩ = some (.int .u64 (v.2 : Nat)) := cell_of_row _ _ 9 _ _ _ b1
  rw [hn] at HO ⊢
  clear hX hB b0 b1 b2 hs ho hrel hcnt hg1 hg2 hg3 hsX hmany hn
  go_enter Try.func8, Try.ntmps8
  go_upto_region 1 with fail
  rw [HX.out.2.2.2.1]
  by_cases h0 : z = 0
  · have z0 : (z == 0) = true := by rw [beq_iff_eq]; exact h0
    have HZ := Lib.hid (show acL l z y v = putL l y v from by unfold acL; rw [if_pos (.inl h0)])
    clear h0
    go_wp2_with (first
      | (go_at_call 16; refine (HP.out).mono ?_; rintro e z1 ⟨rfl, hs, hc⟩; have H1 := Lib.hid (And.intro hs hc); have hcS : z1.cell? ⟨w.heap.size, 0, none⟩ = some (.slice xs n cs) := cell_of_row _ _ 0 _ _ _ (HX.out.1.chg hc (by have := HG.out; omega)); have hk1 : z1.cell? ⟨w.heap.size + 1, 1, none⟩ = some (.int .u64 (lb y 0)) := cell_of_row _ _ 1 _ _ _ (HX.out.2.1.chg hc (by have := HG.out; omega)); have hk2 : z1.cell? ⟨w.heap.size + 1, 2, none⟩ = some (.int .u64 (lb y 1)) := cell_of_row _ _ 2 _ _ _ (HX.out.2.1.chg hc (by have := HG.out; omega)); have hk3 : z1.cell? ⟨w.heap.size + 1, 3, none⟩ = some (.int .u64 (lb y 2)) := cell_of_row _ _ 3 _ _ _ (HX.out.2.1.chg hc (by have := HG.out; omega)); have hk4 : z1.cell? ⟨w.heap.size + 1, 4, none⟩ = some (.int .u64 (lb y 3)) := cell_of_row _ _ 4 _ _ _ (HX.out.2.1.chg hc (by have := HG.out; omega)); have hk5 : z1.cell? ⟨w.heap.size + 1, 5, none⟩ = some (.int .u64 (lb v.1 0)) := cell_of_row _ _ 5 _ _ _ (HX.out.2.1.chg hc (by have := HG.out; omega)); have hk6 : z1.cell? ⟨w.heap.size + 1, 6, none⟩ = some (.int .u64 (lb v.1 1)) := cell_of_row _ _ 6 _ _ _ (HX.out.2.1.chg hc (by have := HG.out; omega)); have hk7 : z1.cell? ⟨w.heap.size + 1, 7, none⟩ = some (.int .u64 (lb v.1 2)) := cell_of_row _ _ 7 _ _ _ (HX.out.2.1.chg hc (by have := HG.out; omega)); have hk8 : z1.cell? ⟨w.heap.size + 1, 8, none⟩ = some (.int .u64 (lb v.1 3)) := cell_of_row _ _ 8 _ _ _ (HX.out.2.1.chg hc (by have := HG.out; omega)); have hk9 : z1.cell? ⟨w.heap.size + 1, 9, none⟩ = some (.int .u64 (v.2 : Nat)) := cell_of_row _ _ 9 _ _ _ (HX.out.2.1.chg hc (by have := HG.out; omega)); clear hs hc)
      | (go_at_call 24; refine (rput_any D (.slice xs n cs) l y hy v hv z1 (HO.out z1 H1.out.2) hll).mono ?_; rintro e z2 ⟨u, rfl, hO, hb⟩; have H2 := Lib.hid (And.intro hO hb); have hk2 := (HX.out.2.2.1.chg H1.out.2 (by have := HG.out; omega)).keep hb; have f2 := frozen_of_row _ _ 0 _ _ hk2; have q2 := cell_of_row _ _ 0 _ _ _ hk2; have HK2 := Lib.hid hk2; clear hO hb hk2; obtain ⟨yu, cu, hu⟩ := H2.out.1.is; subst hu)
      | (go_at_call 15; refine (snum_any _ _).mono ?_; rintro e w6 ⟨rfl, rfl⟩)
      | fail)
    have hC2 : Chg (fun k => k = g ∨ k = bv) w z2 := ((Chg.new HX.out.2.2.2.2).trans H1.out.2 (fun _ _ h => h)).trans (Chg.new (M := fun k => k = g ∨ k = bv) H2.out.2) (fun _ _ h => h)
    have hA := act_end H2.out.1 (Nat.le_trans hD (Nat.le_trans HX.out.2.2.2.2.size H1.out.2.size)) (H1.out.1.keep H2.out.2) HK2.out (HS.out.2.1.put y hy v hv) (by rw [lk2_put]; exact HS.out.2.2.1.put y v) HS.out.2.2.2 (by have := HG.out; omega) hC2 (by omega)
    (try simp only [Exit.inBlock, Exit.then])
    refine bodyPost_ret (ret_act rfl rfl hA.2.2) rfl ⟨_, _, _, _, _, rfl, ?_, hA.2.1, .inl rfl, .inl rfl, .inl rfl⟩
    rw [HZ.out]
    exact hA.1
  · have z0 : (z == 0) = false := by rw [beq_eq_false_iff_ne]; exact h0
    by_cases h1 : z = 1
    · have z1 : (z == 1) = true := by rw [beq_iff_eq]; exact h1
      have HZ := Lib.hid (show acL l z y v = putL l y v from by unfold acL; rw [if_pos (.inr h1)])
      clear h0 h1
      go_wp2_with (first
        | (go_at_call 16; refine (HP.out).mono ?_; rintro e z1 ⟨rfl, hs, hc⟩; have H1 := Lib.hid (And.intro hs hc); have hcS : z1.cell? ⟨w.heap.size, 0, none⟩ = some (.slice xs n cs) := cell_of_row _ _ 0 _ _ _ (HX.out.1.chg hc (by have := HG.out; omega)); have hk1 : z1.cell? ⟨w.heap.size + 1, 1, none⟩ = some (.int .u64 (lb y 0)) := cell_of_row _ _ 1 _ _ _ (HX.out.2.1.chg hc (by have := HG.out; omega)); have hk2 : z1.cell? ⟨w.heap.size + 1, 2, none⟩ = some (.int .u64 (lb y 1)) := cell_of_row _ _ 2 _ _ _ (HX.out.2.1.chg hc (by have := HG.out; omega)); have hk3 : z1.cell? ⟨w.heap.size + 1, 3, none⟩ = some (.int .u64 (lb y 2)) := cell_of_row _ _ 3 _ _ _ (HX.out.2.1.chg hc (by have := HG.out; omega)); have hk4 : z1.cell? ⟨w.heap.size + 1, 4, none⟩ = some (.int .u64 (lb y 3)) := cell_of_row _ _ 4 _ _ _ (HX.out.2.1.chg hc (by have := HG.out; omega)); have hk5 : z1.cell? ⟨w.heap.size + 1, 5, none⟩ = some (.int .u64 (lb v.1 0)) := cell_of_row _ _ 5 _ _ _ (HX.out.2.1.chg hc (by have := HG.out; omega)); have hk6 : z1.cell? ⟨w.heap.size + 1, 6, none⟩ = some (.int .u64 (lb v.1 1)) := cell_of_row _ _ 6 _ _ _ (HX.out.2.1.chg hc (by have := HG.out; omega)); have hk7 : z1.cell? ⟨w.heap.size + 1, 7, none⟩ = some (.int .u64 (lb v.1 2)) := cell_of_row _ _ 7 _ _ _ (HX.out.2.1.chg hc (by have := HG.out; omega)); have hk8 : z1.cell? ⟨w.heap.size + 1, 8, none⟩ = some (.int .u64 (lb v.1 3)) := cell_of_row _ _ 8 _ _ _ (HX.out.2.1.chg hc (by have := HG.out; omega)); have hk9 : z1.cell? ⟨w.heap.size + 1, 9, none⟩ = some (.int .u64 (v.2 : Nat)) := cell_of_row _ _ 9 _ _ _ (HX.out.2.1.chg hc (by have := HG.out; omega)); clear hs hc)
        | (go_at_call 24; refine (rput_any D (.slice xs n cs) l y hy v hv z1 (HO.out z1 H1.out.2) hll).mono ?_; rintro e z2 ⟨u, rfl, hO, hb⟩; have H2 := Lib.hid (And.intro hO hb); have hk2 := (HX.out.2.2.1.chg H1.out.2 (by have := HG.out; omega)).keep hb; have f2 := frozen_of_row _ _ 0 _ _ hk2; have q2 := cell_of_row _ _ 0 _ _ _ hk2; have HK2 := Lib.hid hk2; clear hO hb hk2; obtain ⟨yu, cu, hu⟩ := H2.out.1.is; subst hu)
        | (go_at_call 15; refine (snum_any _ _).mono ?_; rintro e w6 ⟨rfl, rfl⟩)
        | fail)
      have hC2 : Chg (fun k => k = g ∨ k = bv) w z2 := ((Chg.new HX.out.2.2.2.2).trans H1.out.2 (fun _ _ h => h)).trans (Chg.new (M := fun k => k = g ∨ k = bv) H2.out.2) (fun _ _ h => h)
      have hA := act_end H2.out.1 (Nat.le_trans hD (Nat.le_trans HX.out.2.2.2.2.size H1.out.2.size)) (H1.out.1.keep H2.out.2) HK2.out (HS.out.2.1.put y hy v hv) (by rw [lk2_put]; exact HS.out.2.2.1.put y v) HS.out.2.2.2 (by have := HG.out; omega) hC2 (by omega)
      (try simp only [Exit.inBlock, Exit.then])
      refine bodyPost_ret (ret_act rfl rfl hA.2.2) rfl ⟨_, _, _, _, _, rfl, ?_, hA.2.1, .inl rfl, .inl rfl, .inl rfl⟩
      rw [HZ.out]
      exact hA.1
    · have z1 : (z == 1) = false := by rw [beq_eq_false_iff_ne]; exact h1
      by_cases h2 : z = 2
      · have z2 : (z == 2) = true := by rw [beq_iff_eq]; exact h2
        have HZ := Lib.hid (show acL l z y v = settleL l from by unfold acL; rw [if_neg (fun h => h.elim h0 h1), if_pos h2])
        clear h0 h1 h2
        go_wp2_with (first
          | (go_at_call 17; refine (HT.out).mono ?_; rintro e z1 ⟨bv', bw', rfl, hs, hp1, hp2, hc⟩; have H1 := Lib.hid (And.intro hs (And.intro hc (And.intro hp1 hp2))); have hcS : z1.cell? ⟨w.heap.size, 0, none⟩ = some (.slice xs n cs) := cell_of_row _ _ 0 _ _ _ (HX.out.1.chg hc (by have := HG.out; omega)); clear hs hc hp1 hp2)
          | (go_at_call 25; refine (rsettle_any D (.slice xs n cs) l z1 (HO.out z1 (H1.out.2.1.mono (fun k _ e => .inl e))) hll).mono ?_; rintro e z3 ⟨u, rfl, hO, hb⟩; have H2 := Lib.hid (And.intro hO hb); have hk2 := (HX.out.2.2.1.chg H1.out.2.1 (by have := HG.out; omega)).keep hb; have f2 := frozen_of_row _ _ 0 _ _ hk2; have q2 := cell_of_row _ _ 0 _ _ _ hk2; have HK2 := Lib.hid hk2; clear hO hb hk2; obtain ⟨yu, cu, hu⟩ := H2.out.1.is; subst hu)
          | (go_at_call 15; refine (snum_any _ _).mono ?_; rintro e w6 ⟨rfl, rfl⟩)
          | fail)
        have hXs := HX.out.2.2.2.2.size
        have hC2 : Chg (fun k => k = g ∨ k = bv) w z3 := ((Chg.new HX.out.2.2.2.2).trans H1.out.2.1 (fun _ _ h => .inl h)).trans (Chg.new (M := fun k => k = g ∨ k = bv) H2.out.2) (fun _ _ h => h)
        have hcn : Cnt (lk2 (fun _ => none) (ovr fv fw)) many := by
          have e : lk2 (fun _ => none) (ovr fv fw) = lk2 fv fw := by funext k; exact lk_ovr fv fw k
          rw [e]; exact HS.out.2.2.1
        have hA := act_end H2.out.1 (Nat.le_trans hD (Nat.le_trans hXs H1.out.2.1.size)) (H1.out.1.keep H2.out.2) HK2.out HS.out.2.1.settle hcn ⟨HS.out.2.2.2.1, by have := H1.out.2.2.1; omega, by rcases H1.out.2.2.2 with h | h; rw [h]; exact HS.out.2.2.2.2.2; omega⟩ (by have := HG.out; omega) hC2 (by omega)
        (try simp only [Exit.inBlock, Exit.then])
        refine bodyPost_ret (ret_act rfl rfl hA.2.2) rfl ⟨_, _, _, _, _, rfl, ?_, hA.2.1, .inl rfl, .inr (Nat.le_trans hXs H1.out.2.2.1), H1.out.2.2.2.imp id (fun h => Nat.le_trans hXs h)⟩
        rw [HZ.out]
        exact hA.1
      · have z2 : (z == 2) = false := by rw [beq_eq_false_iff_ne]; exact h2
        have HZ := Lib.hid (show acL l z y v = l from by unfold acL; rw [if_neg (fun h => h.elim h0 h1), if_neg h2])
        clear h0 h1 h2
        have f2 := fun w' (hw : HelN 1 31 X (w.heap.size + 2) w') => HelN.frozen hw 0
        have cc := fun w' (hw : HelN 1 31 X (w.heap.size + 2) w') => cell_of_row _ _ 0 _ _ _ (HelN.blk hw HX.out.1 (by omega))
        have h0 : HelN 1 31 X (w.heap.size + 2) X.drew := HelN.drew ⟨grown_refl X _, _, rfl, HX.out.2.2.1⟩
        have cf := fun w' (hw : HelN 1 31 X (w.heap.size + 2) w') => HelN.cell hw 0 (by omega)
        have HSW := Lib.hid (fun w' (hw : HelN 1 31 X (w.heap.size + 2) w') => (show SlB w' g bv bw fv fw many from ⟨HelN.blk hw HS.out.1.1 (by have := HG.out; omega), HelN.map hw HS.out.1.2.1 (by have := HG.out; omega), HelN.map hw HS.out.1.2.2.1 (by have := HG.out; omega), HS.out.1.2.2.2⟩))
        go_upto_region 9 with fail
        go_region_held3 (fun w' => HelN 1 31 X (w.heap.size + 2) w')
          (first | with_reducible assumption | with_reducible exact HelN.set (by assumption) _ _ | with_reducible exact HelN.drew (by assumption))
          (first
            | (go_at_call 19; refine (copy_any g bv bw many fv fw _ (HSW.out _ (by assumption))).mono ?_; rintro e z1 ⟨g', bv', rfl, hs, hp1, hp2, hb⟩; have hH : HelN 1 31 X (w.heap.size + 2) z1 := HelN.call hb (by assumption); have H1 := Lib.hid (And.intro hs (And.intro hp1 (And.intro hp2 hb))); clear hs hp1 hp2 hb)
            | fail)
        all_goals
          go_wp2_with fail
          have hq := H1.out.2.2.2
          have hbX : Below X.heap.size X z1 := ⟨hq.os, hq.tape, hq.output, hq.size, hq.block⟩
          have hg' : X.heap.size ≤ g' := H1.out.2.1
          have hv' : X.heap.size ≤ bv' := H1.out.2.2.1
          have hXs := HX.out.2.2.2.2.size
          have h2X := HX.out.2.2.1.lt
          have hA := act_end (b := D) (HO.out z1 (Chg.new hbX)) (Nat.le_refl _) H1.out.1 (HX.out.2.2.1.keep hbX) HS.out.2.1 HS.out.2.2.1 ⟨by omega, by omega, HS.out.2.2.2.2.2⟩ (by omega) ((Chg.new (M := fun k => k = g ∨ k = bv) HX.out.2.2.2.2).trans (Chg.new (M := fun k => k = g ∨ k = bv) hbX) (fun _ _ h => h)) (by omega)
          (try simp only [Exit.inBlock, Exit.then])
          refine bodyPost_ret (ret_act rfl rfl hA.2.2) rfl ⟨_, _, _, _, _, rfl, ?_, hA.2.1, .inr (Nat.le_trans hXs hg'), .inr (Nat.le_trans hXs hv'), .inl rfl⟩
          rw [HZ.out]
          exact hA.1
theorem act_any (D : Nat) (p r : Value) (l : List Rw) (z : Int) (y : Nat) (hy : y < MM) (v : Nat × Nat) (hv : okP v) (w : World) (hD : D ≤ w.heap.size) (h : StW D w p r l) (hll : l.length ≤ 1000) (hmany : ∀ many, (allL l).length = many → many ≤ 1000000) :
    Calls Try.prog 8 #[p, .agg #[r], .agg #[.int .i64 z, .int .u64 (lb y 0), .int .u64 (lb y 1), .int .u64 (lb y 2), .int .u64 (lb y 3), .int .u64 (lb v.1 0), .int .u64 (lb v.1 1), .int .u64 (lb v.1 2), .int .u64 (lb v.1 3), .int .u64 (v.2 : Nat)]] w fun e w' => ∃ p' r', e = .returned (.tuple #[p', .agg #[r'], .bool true]) ∧ StW D w' p' r' (acL l z y v) ∧ Below D w w' ∧ (∀ b cs, Blk w b 31 cs → Blk w' b 31 cs) := by
  obtain ⟨g, bv, bw, many, fv, fw, h⟩ := h
  refine (act_far D g bv bw p r l z y hy v hv w hD ⟨many, fv, fw, h⟩ hll hmany).mono ?_
  rintro e w' ⟨p', r', g', bv', bw', rfl, h1, h2, _⟩
  exact ⟨p', r', rfl, h1.w, h2.below hD (fun k hk e => by have := h.2.2.2.2.2; omega), fun b cs hb => h.2.1.box hb h2 (fun k hk => hk.elim .inl (fun e => .inr (.inl e)))⟩
end Go.Proofs.Ytcfnhilcpfiocaa
