/- Texts laid into one: Qa. -/
import Derived.Test.YtcfnhilcpfiocaaSuh
import Derived.Test.YtcfnhilcpfiocaaStp
import Derived.Test.YtcfnhilcpfiocaaSts
import Derived.Test.YtcfnhilcpfiocaaStn
import Derived.Sort.QuietTacIn
import Derived.Lib.MinMax
import Derived.Deep.RegionHeld3
import Derived.RegionTactic
import Derived.LoopTactic
/- slot's laws: act. -/
namespace Go.Proofs.Ytcfnhilcpfiocaa
open Go.RowKit Go.Shelf Go.ChangeMaps Go.MapKept

theorem OwR.apart {X : World} {b g : Nat} {v : Value} {l : List Rw} {o : Obj} (h : OwR X b v l) (hb : X.heap[g]? = some o) (ho : ∀ cs fr, o ≠ .cells cs 59 fr) : v.ownBlock ≠ some g := by
  intro e
  rcases h.2.2 with ⟨rfl, _⟩ | ⟨g', cap, cur, rfl, _, hg, _⟩
  · cases e
  · have : g' = g := by simpa [Value.ownBlock] using e
    subst this
    rw [hg] at hb
    exact ho _ _ (Option.some.inj hb).symm
theorem OwR.chg {X Y : World} {b g bv : Nat} {v : Value} {l : List Rw} {cs : Array Value} {m : Nat → Option (Nat × Nat)} (h : OwR X b v l) (hg : Blk X g 44 cs) (hb : Mp X bv m) (hc : Chg (fun k => k = g ∨ k = bv) X Y) : OwR Y b v l := by
  obtain ⟨es, ck, hm, _⟩ := hb
  have n1 := h.apart hg (fun cs fr e => by injection e with _ e; exact absurd e (by decide))
  have n2 := h.apart hm (fun cs fr e => by cases e)
  refine ⟨h.1, h.2.1, ?_⟩
  rcases h.2.2 with h0 | ⟨g', cap, cur, rfl, p1, p2, p3⟩
  · exact .inl h0
  · have hne : g' ≠ g ∧ g' ≠ bv := ⟨fun e => n1 (by rw [← e]; rfl), fun e => n2 (by rw [← e]; rfl)⟩
    exact .inr ⟨g', cap, cur, rfl, p1, (hc.block g' (Array.getElem?_eq_some_iff.1 p2).1 (fun e => e.elim hne.1 hne.2)).trans p2, p3⟩
/-- A storage, the document's rows beside it; all of it behind D. -/
def StW (D : Nat) (X : World) (p : Value) (r : Value) (l : List Rw) : Prop := ∃ g bv bw many fv fw, p = .pointer (some ⟨g, 0, none⟩) ∧ SlB X g bv bw fv fw many ∧ OwR X D r l ∧ Rel fv fw l ∧ Cnt (lk2 fv fw) many ∧ D ≤ g ∧ D ≤ bv ∧ D ≤ bw
/-- What the call makes of the document's rows. -/
def acL (l : List Rw) (z : Int) (y : Nat) (v : Nat × Nat) : List Rw := if z = 0 ∨ z = 1 then putL l y v else if z = 2 then settleL l else l
theorem ret_act {fn : Func} {tmps : Array Value} {X : World} {g : Nat} {u : Value} (h : fn.results = #[.tmp 6, .cell 7 31, .tmp 8]) (hp : tmps.getD 7 undef = .pointer (some ⟨g, 0, none⟩)) (hb : Blk X g 31 #[u]) : (results fn tmps).run Try.prog X = .ok (.tuple #[tmps.getD 6 undef, .agg #[u], tmps.getD 8 undef]) X := by
  have hr := run_loadVar_row (P := Try.prog) X g 31 31 #[u] (0, 0) _ hb Try.underlying31 rfl (by rw [info_sl]; rfl)
  have hc : (results fn tmps).run Try.prog X = ((asAddr (tmps.getD 7 undef)).run Try.prog X).andThen fun a w₁ => ((loadVar 31 a).run Try.prog w₁).andThen fun v w₂ => .ok (.tuple #[tmps.getD 6 undef, v, tmps.getD 8 undef]) w₂ := by
    simp only [results, h]
    simp [Sem.run_bind, Result.andThen]
  rw [hc, hp]
  simp [asAddr, Result.andThen, hr]
theorem box_ne {X : World} {b g : Nat} {t u : TypeId} {cs ds : Array Value} (h : Blk X b t cs) (k : Blk X g u ds) (hne : t ≠ u) : b ≠ g := by
  rintro rfl
  unfold Blk at h k
  rw [h] at k
  injection k with k
  injection k with _ k
  exact hne k
theorem SlB.box {X Y : World} {g bv bw b many : Nat} {fv fw : Nat → Option (Nat × Nat)} {cs : Array Value} {M : Nat → Prop} (hs : SlB X g bv bw fv fw many) (h : Blk X b 31 cs) (hc : Chg M X Y) (hM : ∀ k, M k → k = g ∨ k = bv ∨ k = bw) : Blk Y b 31 cs := by
  have e0 := box_ne h hs.1 (by decide)
  have e1 := blk_ne_map h hs.2.1
  have e2 := blk_ne_map h hs.2.2.1
  exact h.chg hc (fun hm => by rcases hM _ hm with e | e | e; exact e0 e; exact e1 e; exact e2 e)
theorem act_end {D b h2 g bv bw m : Nat} {F1 F2 : Nat → Option (Nat × Nat)} {w Z : World} {u c0 : Value} {L : List Rw} (ho : OwR Z b u L) (hb : D ≤ b) (hs : SlB Z g bv bw F1 F2 m) (hk : Blk Z h2 31 #[c0]) (hrel : Rel F1 F2 L) (hcnt : Cnt (lk2 F1 F2) m) (hD : D ≤ g ∧ D ≤ bv ∧ D ≤ bw) (hg : g ≠ h2) (hB : Below D w Z) (hD2 : D ≤ h2) (hkp : (∀ b cs, Blk w b 31 cs → Blk Z b 31 cs)) (hw2 : w.heap.size ≤ h2) :
    StW D (Z.setCell ⟨h2, 0, none⟩ u) (.pointer (some ⟨g, 0, none⟩)) u L ∧ Below D w (Z.setCell ⟨h2, 0, none⟩ u) ∧ Blk (Z.setCell ⟨h2, 0, none⟩ u) h2 31 #[u] ∧ (∀ b cs, Blk w b 31 cs → Blk (Z.setCell ⟨h2, 0, none⟩ u) b 31 cs) := by
  have hgr := grown_set' (grown_refl Z h2) 0 u
  have hc := Chg.of hgr
  have e1 := blk_ne_map hk hs.2.1
  have e2 := blk_ne_map hk hs.2.2.1
  have e3 := ho.apart hk (fun cs fr e => by injection e with _ e; exact absurd e (by decide))
  have hne : ∀ k, k ≠ h2 → ¬ (some k = some h2) := fun k hk e => hk (Option.some.inj e)
  refine ⟨⟨g, bv, bw, m, F1, F2, rfl, hs.chg hc (hne _ hg) (hne _ (Ne.symm e1)) (hne _ (Ne.symm e2)), ⟨ho.1, (World.ownsRow.kept ho.2 hgr (.inr e3)).mono hb⟩, hrel, hcnt, hD⟩, hB.setCell (p := ⟨h2, 0, none⟩) hD2 _, heap_setCell_same _ _ 0 _ _ _ hk, fun b cs h => (hkp b cs h).kept hgr (by intro e; have := h.lt; injection e with e; omega)⟩
set_option maxRecDepth 100000 in
set_option maxHeartbeats 4000000 in
theorem act_any (D : Nat) (p r : Value) (l : List Rw) (z : Int) (y : Nat) (hy : y < MM) (v : Nat × Nat) (hv : okP v) (w : World) (hD : D ≤ w.heap.size) (h : StW D w p r l) (hll : l.length ≤ 1000) (hmany : ∀ many, (allL l).length = many → many ≤ 1000000) :
    Calls Try.prog 8 #[p, .agg #[r], .agg #[.int .i64 z, .int .u64 (lb y 0), .int .u64 (lb y 1), .int .u64 (lb y 2), .int .u64 (lb y 3), .int .u64 (lb v.1 0), .int .u64 (lb v.1 1), .int .u64 (lb v.1 2), .int .u64 (lb v.1 3), .int .u64 (v.2 : Nat)]] w fun e w' => ∃ p' r', e = .returned (.tuple #[p', .agg #[r'], .bool true]) ∧ StW D w' p' r' (acL l z y v) ∧ Below D w w' ∧ (∀ b cs, Blk w b 31 cs → Blk w' b 31 cs) := by
  obtain ⟨g, bv, bw, many, fv, fw, rfl, hs, ho, hrel, hcnt, hg1, hg2, hg3⟩ := h
  obtain ⟨xs, cs, rfl⟩ := ho.is
  obtain ⟨n, hn⟩ : ∃ n, l.length = n := ⟨_, rfl⟩
  obtain ⟨X, hX⟩ : ∃ X, ((w.alloc (.cells #[.slice xs n cs] 31)).alloc (.cells #[.int .i64 z, .int .u64 (lb y 0), .int .u64 (lb y 1), .int .u64 (lb y 2), .int .u64 (lb y 3), .int .u64 (lb v.1 0), .int .u64 (lb v.1 1), .int .u64 (lb v.1 2), .int .u64 (lb v.1 3), .int .u64 (v.2 : Nat)] 38)).alloc (.cells #[.slice none 0 0] 31) = X := ⟨_, rfl⟩
  have hB : Below w.heap.size w X := by rw [← hX]; exact balloc (balloc (balloc (Below.refl _ _) _) _) _
  have b0 : Blk X w.heap.size 31 #[.slice xs n cs] := by rw [← hX]; exact ((Blk.new _ _ _).alloc _).alloc _
  have b1 : Blk X (w.heap.size + 1) 38 #[.int .i64 z, .int .u64 (lb y 0), .int .u64 (lb y 1), .int .u64 (lb y 2), .int .u64 (lb y 3), .int .u64 (lb v.1 0), .int .u64 (lb v.1 1), .int .u64 (lb v.1 2), .int .u64 (lb v.1 3), .int .u64 (v.2 : Nat)] := by rw [← hX]; exact (Blk.newS _ _ _ _).alloc _
  have b2 : Blk X (w.heap.size + 2) 31 #[.slice none 0 0] := by
    rw [← hX]
    have h := Blk.newS (w.alloc (.cells #[.slice xs n cs] 31)) (.cells #[.int .i64 z, .int .u64 (lb y 0), .int .u64 (lb y 1), .int .u64 (lb y 2), .int .u64 (lb y 3), .int .u64 (lb v.1 0), .int .u64 (lb v.1 1), .int .u64 (lb v.1 2), .int .u64 (lb v.1 3), .int .u64 (v.2 : Nat)] 38) 31 #[.slice none 0 0]
    rwa [World.size_alloc] at h
  have hsX := hs.keep hB
  have HX := Lib.hid (And.intro b0 (And.intro b1 (And.intro b2 (And.intro hX hB))))
  have HS := Lib.hid (And.intro hsX (And.intro hrel (And.intro hcnt (And.intro hg1 (And.intro hg2 hg3)))))
  have HG := Lib.hid (show g < w.heap.size ∧ bv < w.heap.size ∧ bw < w.heap.size from ⟨hs.1.lt, hs.2.1.lt, hs.2.2.1.lt⟩)
  have HO := Lib.hid (fun Y (hc : Chg (fun k => k = g ∨ k = bv) X Y) => (ho.keep hB).chg hsX.1 hsX.2.1 hc)
  have HP := Lib.hid (sput_any g bv bw many fv fw y hy v hv (hmany many (hrel.len hcnt)) (hcnt.pos y) X hsX)
  have HT := Lib.hid (settle_any g bv bw many fv fw X hsX)
  have HC := Lib.hid (copy_any g bv bw many fv fw X hsX)
  have c0 : X.cell? ⟨w.heap.size, 0, none⟩ = some (.slice xs n cs) := cell_of_row _ _ 0 _ _ _ b0
  have k0 : X.cell? ⟨w.heap.size + 1, 0, none⟩ = some (.int .i64 z) := cell_of_row _ _ 0 _ _ _ b1
  have k1 : X.cell? ⟨w.heap.size + 1, 1, none⟩ = some (.int .u64 (lb y 0)) := cell_of_row _ _ 1 _ _ _ b1
  have k2 : X.cell? ⟨w.heap.size + 1, 2, none⟩ = some (.int .u64 (lb y 1)) := cell_of_row _ _ 2 _ _ _ b1
  have k3 : X.cell? ⟨w.heap.size + 1, 3, none⟩ = some (.int .u64 (lb y 2)) := cell_of_row _ _ 3 _ _ _ b1
  have k4 : X.cell? ⟨w.heap.size + 1, 4, none⟩ = some (.int .u64 (lb y 3)) := cell_of_row _ _ 4 _ _ _ b1
  have k5 : X.cell? ⟨w.heap.size + 1, 5, none⟩ = some (.int .u64 (lb v.1 0)) := cell_of_row _ _ 5 _ _ _ b1
  have k6 : X.cell? ⟨w.heap.size + 1, 6, none⟩ = some (.int .u64 (lb v.1 1)) := cell_of_row _ _ 6 _ _ _ b1
  have k7 : X.cell? ⟨w.heap.size + 1, 7, none⟩ = some (.int .u64 (lb v.1 2)) := cell_of_row _ _ 7 _ _ _ b1
  have k8 : X.cell? ⟨w.heap.size + 1, 8, none⟩ = some (.int .u64 (lb v.1 3)) := cell_of_row _ _ 8 _ _ _ b1
  have k9 : X.cell? ⟨w.heap.size + 1, 9, none⟩ = some (.int .u64 (v.2 : Nat)) := cell_of_row _ _ 9 _ _ _ b1
  rw [hn] at HO ⊢
  clear hX hB b0 b1 b2 hs ho hrel hcnt hg1 hg2 hg3 hsX hmany hn
  go_enter Try.func8, Try.ntmps8
  go_upto_region 1 with fail
  rw [HX.out.2.2.2.1]
  by_cases h0 : z = 0
  · have z0 : (z == 0) = true := by rw [beq_iff_eq]; exact h0
    have HZ := Lib.hid (show acL l z y v = putL l y v from by unfold acL; rw [if_pos (.inl h0)])
    clear h0
    go_wp2_with (first
      | (go_at_call 16; refine (HP.out).mono ?_; rintro e z1 ⟨rfl, hs, hc⟩; have H1 := Lib.hid (And.intro hs hc); have hcS : z1.cell? ⟨w.heap.size, 0, none⟩ = some (.slice xs n cs) := cell_of_row _ _ 0 _ _ _ (HX.out.1.chg hc (by have := HG.out; omega)); have hk1 : z1.cell? ⟨w.heap.size + 1, 1, none⟩ = some (.int .u64 (lb y 0)) := cell_of_row _ _ 1 _ _ _ (HX.out.2.1.chg hc (by have := HG.out; omega)); have hk2 : z1.cell? ⟨w.heap.size + 1, 2, none⟩ = some (.int .u64 (lb y 1)) := cell_of_row _ _ 2 _ _ _ (HX.out.2.1.chg hc (by have := HG.out; omega)); have hk3 : z1.cell? ⟨w.heap.size + 1, 3, none⟩ = some (.int .u64 (lb y 2)) := cell_of_row _ _ 3 _ _ _ (HX.out.2.1.chg hc (by have := HG.out; omega)); have hk4 : z1.cell? ⟨w.heap.size + 1, 4, none⟩ = some (.int .u64 (lb y 3)) := cell_of_row _ _ 4 _ _ _ (HX.out.2.1.chg hc (by have := HG.out; omega)); have hk5 : z1.cell? ⟨w.heap.size + 1, 5, none⟩ = some (.int .u64 (lb v.1 0)) := cell_of_row _ _ 5 _ _ _ (HX.out.2.1.chg hc (by have := HG.out; omega)); have hk6 : z1.cell? ⟨w.heap.size + 1, 6, none⟩ = some (.int .u64 (lb v.1 1)) := cell_of_row _ _ 6 _ _ _ (HX.out.2.1.chg hc (by have := HG.out; omega)); have hk7 : z1.cell? ⟨w.heap.size + 1, 7, none⟩ = some (.int .u64 (lb v.1 2)) := cell_of_row _ _ 7 _ _ _ (HX.out.2.1.chg hc (by have := HG.out; omega)); have hk8 : z1.cell? ⟨w.heap.size + 1, 8, none⟩ = some (.int .u64 (lb v.1 3)) := cell_of_row _ _ 8 _ _ _ (HX.out.2.1.chg hc (by have := HG.out; omega)); have hk9 : z1.cell? ⟨w.heap.size + 1, 9, none⟩ = some (.int .u64 (v.2 : Nat)) := cell_of_row _ _ 9 _ _ _ (HX.out.2.1.chg hc (by have := HG.out; omega)); clear hs hc)
      | (go_at_call 24; refine (rput_any D (.slice xs n cs) l y hy v hv z1 (HO.out z1 H1.out.2) hll).mono ?_; rintro e z2 ⟨u, rfl, hO, hb⟩; have H2 := Lib.hid (And.intro hO hb); have hk2 := (HX.out.2.2.1.chg H1.out.2 (by have := HG.out; omega)).keep hb; have f2 := frozen_of_row _ _ 0 _ _ hk2; have q2 := cell_of_row _ _ 0 _ _ _ hk2; have HK2 := Lib.hid hk2; clear hO hb hk2; obtain ⟨yu, cu, hu⟩ := H2.out.1.is; subst hu)
      | (go_at_call 15; refine (snum_any _ _).mono ?_; rintro e w6 ⟨rfl, rfl⟩)
      | fail)
    have hB2 : Below D w z2 := (HX.out.2.2.2.2.mono hD).trans ((H1.out.2.below (Nat.le_trans hD HX.out.2.2.2.2.size) (fun k hk e => by have := HS.out.2.2.2; omega)).trans (H2.out.2.mono (Nat.le_trans hD (Nat.le_trans HX.out.2.2.2.2.size H1.out.2.size))))
    have hA := act_end H2.out.1 (Nat.le_trans hD (Nat.le_trans HX.out.2.2.2.2.size H1.out.2.size)) (H1.out.1.keep H2.out.2) HK2.out (HS.out.2.1.put y hy v hv) (by rw [lk2_put]; exact HS.out.2.2.1.put y v) HS.out.2.2.2 (by have := HG.out; omega) hB2 (by omega) (fun b cs h => (HS.out.1.box (h.keep HX.out.2.2.2.2) H1.out.2 (fun k hk => hk.elim .inl (fun e => .inr (.inl e)))).keep H2.out.2) (by omega)
    (try simp only [Exit.inBlock, Exit.then])
    refine bodyPost_ret (ret_act rfl rfl hA.2.2.1) rfl ⟨_, _, rfl, ?_, hA.2.1, hA.2.2.2⟩
    rw [HZ.out]
    exact hA.1
  · have z0 : (z == 0) = false := by rw [beq_eq_false_iff_ne]; exact h0
    by_cases h1 : z = 1
    · have z1 : (z == 1) = true := by rw [beq_iff_eq]; exact h1
      have HZ := Lib.hid (show acL l z y v = putL l y v from by unfold acL; rw [if_pos (.inr h1)])
      clear h0 h1
      go_wp2_with (first
        | (go_at_call 16; refine (HP.out).mono ?_; rintro e z1 ⟨rfl, hs, hc⟩; have H1 := Lib.hid (And.intro hs hc); have hcS : z1.cell? ⟨w.heap.size, 0, none⟩ = some (.slice xs n cs) := cell_of_row _ _ 0 _ _ _ (HX.out.1.chg hc (by have := HG.out; omega)); have hk1 : z1.cell? ⟨w.heap.size + 1, 1, none⟩ = some (.int .u64 (lb y 0)) := cell_of_row _ _ 1 _ _ _ (HX.out.2.1.chg hc (by have := HG.out; omega)); have hk2 : z1.cell? ⟨w.heap.size + 1, 2, none⟩ = some (.int .u64 (lb y 1)) := cell_of_row _ _ 2 _ _ _ (HX.out.2.1.chg hc (by have := HG.out; omega)); have hk3 : z1.cell? ⟨w.heap.size + 1, 3, none⟩ = some (.int .u64 (lb y 2)) := cell_of_row _ _ 3 _ _ _ (HX.out.2.1.chg hc (by have := HG.out; omega)); have hk4 : z1.cell? ⟨w.heap.size + 1, 4, none⟩ = some (.int .u64 (lb y 3)) := cell_of_row _ _ 4 _ _ _ (HX.out.2.1.chg hc (by have := HG.out; omega)); have hk5 : z1.cell? ⟨w.heap.size + 1, 5, none⟩ = some (.int .u64 (lb v.1 0)) := cell_of_row _ _ 5 _ _ _ (HX.out.2.1.chg hc (by have := HG.out; omega)); have hk6 : z1.cell? ⟨w.heap.size + 1, 6, none⟩ = some (.int .u64 (lb v.1 1)) := cell_of_row _ _ 6 _ _ _ (HX.out.2.1.chg hc (by have := HG.out; omega)); have hk7 : z1.cell? ⟨w.heap.size + 1, 7, none⟩ = some (.int .u64 (lb v.1 2)) := cell_of_row _ _ 7 _ _ _ (HX.out.2.1.chg hc (by have := HG.out; omega)); have hk8 : z1.cell? ⟨w.heap.size + 1, 8, none⟩ = some (.int .u64 (lb v.1 3)) := cell_of_row _ _ 8 _ _ _ (HX.out.2.1.chg hc (by have := HG.out; omega)); have hk9 : z1.cell? ⟨w.heap.size + 1, 9, none⟩ = some (.int .u64 (v.2 : Nat)) := cell_of_row _ _ 9 _ _ _ (HX.out.2.1.chg hc (by have := HG.out; omega)); clear hs hc)
        | (go_at_call 24; refine (rput_any D (.slice xs n cs) l y hy v hv z1 (HO.out z1 H1.out.2) hll).mono ?_; rintro e z2 ⟨u, rfl, hO, hb⟩; have H2 := Lib.hid (And.intro hO hb); have hk2 := (HX.out.2.2.1.chg H1.out.2 (by have := HG.out; omega)).keep hb; have f2 := frozen_of_row _ _ 0 _ _ hk2; have q2 := cell_of_row _ _ 0 _ _ _ hk2; have HK2 := Lib.hid hk2; clear hO hb hk2; obtain ⟨yu, cu, hu⟩ := H2.out.1.is; subst hu)
        | (go_at_call 15; refine (snum_any _ _).mono ?_; rintro e w6 ⟨rfl, rfl⟩)
        | fail)
      have hB2 : Below D w z2 := (HX.out.2.2.2.2.mono hD).trans ((H1.out.2.below (Nat.le_trans hD HX.out.2.2.2.2.size) (fun k hk e => by have := HS.out.2.2.2; omega)).trans (H2.out.2.mono (Nat.le_trans hD (Nat.le_trans HX.out.2.2.2.2.size H1.out.2.size))))
      have hA := act_end H2.out.1 (Nat.le_trans hD (Nat.le_trans HX.out.2.2.2.2.size H1.out.2.size)) (H1.out.1.keep H2.out.2) HK2.out (HS.out.2.1.put y hy v hv) (by rw [lk2_put]; exact HS.out.2.2.1.put y v) HS.out.2.2.2 (by have := HG.out; omega) hB2 (by omega) (fun b cs h => (HS.out.1.box (h.keep HX.out.2.2.2.2) H1.out.2 (fun k hk => hk.elim .inl (fun e => .inr (.inl e)))).keep H2.out.2) (by omega)
      (try simp only [Exit.inBlock, Exit.then])
      refine bodyPost_ret (ret_act rfl rfl hA.2.2.1) rfl ⟨_, _, rfl, ?_, hA.2.1, hA.2.2.2⟩
      rw [HZ.out]
      exact hA.1
    · have z1 : (z == 1) = false := by rw [beq_eq_false_iff_ne]; exact h1
      by_cases h2 : z = 2
      · have z2 : (z == 2) = true := by rw [beq_iff_eq]; exact h2
        have HZ := Lib.hid (show acL l z y v = settleL l from by unfold acL; rw [if_neg (fun h => h.elim h0 h1), if_pos h2])
        clear h0 h1 h2
        go_wp2_with (first
          | (go_at_call 17; refine (HT.out).mono ?_; rintro e z1 ⟨bv', bw', rfl, hs, hp1, hp2, hc⟩; have H1 := Lib.hid (And.intro hs (And.intro hc (And.intro hp1 hp2))); have hcS : z1.cell? ⟨w.heap.size, 0, none⟩ = some (.slice xs n cs) := cell_of_row _ _ 0 _ _ _ (HX.out.1.chg hc (by have := HG.out; omega)); clear hs hc hp1 hp2)
          | (go_at_call 25; refine (rsettle_any D (.slice xs n cs) l z1 (HO.out z1 (H1.out.2.1.mono (fun k _ e => .inl e))) hll).mono ?_; rintro e z3 ⟨u, rfl, hO, hb⟩; have H2 := Lib.hid (And.intro hO hb); have hk2 := (HX.out.2.2.1.chg H1.out.2.1 (by have := HG.out; omega)).keep hb; have f2 := frozen_of_row _ _ 0 _ _ hk2; have q2 := cell_of_row _ _ 0 _ _ _ hk2; have HK2 := Lib.hid hk2; clear hO hb hk2; obtain ⟨yu, cu, hu⟩ := H2.out.1.is; subst hu)
          | (go_at_call 15; refine (snum_any _ _).mono ?_; rintro e w6 ⟨rfl, rfl⟩)
          | fail)
        have hXs := HX.out.2.2.2.2.size
        have hB2 : Below D w z3 := (HX.out.2.2.2.2.mono hD).trans ((H1.out.2.1.below (Nat.le_trans hD hXs) (fun k hk e => by have := HS.out.2.2.2; omega)).trans (H2.out.2.mono (Nat.le_trans hD (Nat.le_trans hXs H1.out.2.1.size))))
        have hcn : Cnt (lk2 (fun _ => none) (ovr fv fw)) many := by
          have e : lk2 (fun _ => none) (ovr fv fw) = lk2 fv fw := by funext k; exact lk_ovr fv fw k
          rw [e]; exact HS.out.2.2.1
        have hA := act_end H2.out.1 (Nat.le_trans hD (Nat.le_trans hXs H1.out.2.1.size)) (H1.out.1.keep H2.out.2) HK2.out HS.out.2.1.settle hcn ⟨HS.out.2.2.2.1, by have := H1.out.2.2.1; omega, by rcases H1.out.2.2.2 with h | h; rw [h]; exact HS.out.2.2.2.2.2; omega⟩ (by have := HG.out; omega) hB2 (by omega) (fun b cs h => (HS.out.1.box (h.keep HX.out.2.2.2.2) H1.out.2.1 (fun k hk => by first | exact .inl hk | omega)).keep H2.out.2) (by omega)
        (try simp only [Exit.inBlock, Exit.then])
        refine bodyPost_ret (ret_act rfl rfl hA.2.2.1) rfl ⟨_, _, rfl, ?_, hA.2.1, hA.2.2.2⟩
        rw [HZ.out]
        exact hA.1
      · have z2 : (z == 2) = false := by rw [beq_eq_false_iff_ne]; exact h2
        have HZ := Lib.hid (show acL l z y v = l from by unfold acL; rw [if_neg (fun h => h.elim h0 h1), if_neg h2])
        clear h0 h1 h2
        have f2 := fun w' (hw : HelN 1 31 X (w.heap.size + 2) w') => HelN.frozen hw 0
        have cc := fun w' (hw : HelN 1 31 X (w.heap.size + 2) w') => cell_of_row _ _ 0 _ _ _ (HelN.blk hw HX.out.1 (by omega))
        have h0 : HelN 1 31 X (w.heap.size + 2) X.drew := HelN.drew ⟨grown_refl X _, _, rfl, HX.out.2.2.1⟩
        have cf := fun w' (hw : HelN 1 31 X (w.heap.size + 2) w') => HelN.cell hw 0 (by omega)
        have HSW := Lib.hid (fun w' (hw : HelN 1 31 X (w.heap.size + 2) w') => (show SlB w' g bv bw fv fw many from ⟨HelN.blk hw HS.out.1.1 (by have := HG.out; omega), HelN.map hw HS.out.1.2.1 (by have := HG.out; omega), HelN.map hw HS.out.1.2.2.1 (by have := HG.out; omega), HS.out.1.2.2.2⟩))
        go_upto_region 9 with fail
        go_region_held3 (fun w' => HelN 1 31 X (w.heap.size + 2) w')
          (first | with_reducible assumption | with_reducible exact HelN.set (by assumption) _ _ | with_reducible exact HelN.drew (by assumption))
          (first
            | (go_at_call 19; refine (copy_any g bv bw many fv fw _ (HSW.out _ (by assumption))).mono ?_; rintro e z1 ⟨g', bv', rfl, hs, hp1, hp2, hb⟩; have hH : HelN 1 31 X (w.heap.size + 2) z1 := HelN.call hb (by assumption); have H1 := Lib.hid (And.intro hs (And.intro hp1 (And.intro hp2 hb))); clear hs hp1 hp2 hb)
            | fail)
        all_goals
          go_wp2_with fail
          have hq := H1.out.2.2.2
          have hbX : Below X.heap.size X z1 := ⟨hq.os, hq.tape, hq.output, hq.size, hq.block⟩
          have hg' : X.heap.size ≤ g' := H1.out.2.1
          have hv' : X.heap.size ≤ bv' := H1.out.2.2.1
          have hXs := HX.out.2.2.2.2.size
          have h2X := HX.out.2.2.1.lt
          have hA := act_end (b := D) (HO.out z1 (Chg.new hbX)) (Nat.le_refl _) H1.out.1 (HX.out.2.2.1.keep hbX) HS.out.2.1 HS.out.2.2.1 ⟨by omega, by omega, HS.out.2.2.2.2.2⟩ (by omega) ((HX.out.2.2.2.2.mono hD).trans (hbX.mono (Nat.le_trans hD hXs))) (by omega) (fun b cs h => (h.keep HX.out.2.2.2.2).keep hbX) (by omega)
          (try simp only [Exit.inBlock, Exit.then])
          refine bodyPost_ret (ret_act rfl rfl hA.2.2.1) rfl ⟨_, _, rfl, ?_, hA.2.1, hA.2.2.2⟩
          rw [HZ.out]
          exact hA.1
end Go.Proofs.Ytcfnhilcpfiocaa

/- slot's laws: is. -/
namespace Go.Proofs.Ytcfnhilcpfiocaa
open Go.RowKit Go.Shelf Go.ChangeMaps Go.MapKept
attribute [local go_sem] Oper.semAt_some
theorem nodup_sub {xs : List Nat} : ∀ {ks : List Nat}, xs.Nodup → (∀ x ∈ xs, x ∈ ks) → xs.length ≤ ks.length := by
  induction xs with
  | nil => intro ks _ _; simp
  | cons x xs ih =>
    intro ks hn hs
    obtain ⟨h1, h2⟩ := List.nodup_cons.1 hn
    have hm := hs x (by simp)
    have := ih (ks := ks.erase x) h2 (fun y hy => (List.mem_erase_of_ne (fun e => h1 (by rw [← e]; exact hy))).2 (hs y (by simp [hy])))
    rw [List.length_erase_of_mem hm] at this
    have := List.length_pos_of_mem hm
    simp
    omega
theorem Rel.many {fv fw : Nat → Option (Nat × Nat)} {l : List Rw} (h : Rel fv fw l) (hl : l.length ≤ 1000) (xs : List Nat) (hn : xs.Nodup) (hx : ∀ x ∈ xs, x < MM ∧ ovr fv fw x ≠ none) : xs.length ≤ 1000000 := by
  have h1 := nodup_sub hn (fun x hm => (h.rise.2.1 x).2 (hx x hm).2)
  rw [List.length_map] at h1
  have h2 : (allL l).length ≤ l.length := by unfold allL; exact List.length_filter_le _ _
  omega
/-- Rows that are read, their block below q. -/
def RwS (q : Nat) (X : World) (v : Value) (l : List Rw) : Prop := ∀ k r, l[k]? = some r → ∃ b o c, v = .slice (some ⟨b, o, none⟩) l.length c ∧ b < q ∧ b < X.heap.size ∧ ∀ j, j < 14 → X.cell? ⟨b, o + k * 14 + j, none⟩ = (rvA r)[j]?
theorem RwS.of {X : World} {b : Nat} {v : Value} {l : List Rw} (h : OwR X b v l) : RwS X.heap.size X v l := fun k r hk => by
  obtain ⟨b, o, c, e, h1, h2⟩ := h.at hk
  exact ⟨b, o, c, e, h1, h1, h2⟩
theorem RwS.kept {q : Nat} {X Y : World} {v : Value} {l : List Rw} (h : RwS q X v l) (hs : X.heap.size ≤ Y.heap.size) (hk : ∀ b, b < q → b < X.heap.size → Y.heap[b]? = X.heap[b]?) : RwS q Y v l := fun k r hr => by
  obtain ⟨b, o, c, e, h1, h2, h3⟩ := h k r hr
  exact ⟨b, o, c, e, h1, Nat.lt_of_lt_of_le h2 hs, fun j hj => (cell_heap (p := ⟨b, o + k * 14 + j, none⟩) (hk b h1 h2)).trans (h3 j hj)⟩
theorem RwS.up {q q2 : Nat} {X : World} {v : Value} {l : List Rw} (h : RwS q X v l) (hq : q ≤ q2) : RwS q2 X v l := fun k r hr => by
  obtain ⟨b, o, c, e, h1, h2⟩ := h k r hr
  exact ⟨b, o, c, e, by omega, h2⟩
/-- What stands in the boxes of is. -/
def IsB (h g bv bw gL gN q many : Nat) (k : Int) (vA r : Value) (lA l : List Rw) (fv fw : Nat → Option (Nat × Nat)) (w : World) (m : Nat) (X : World) : Prop :=
  (Blk X h 31 #[r] ∧ Blk X (h + 1) 3 #[.int .i64 k] ∧ Blk X (h + 2) 4 #[.bool false] ∧ Blk X gL 29 #[vA] ∧ Blk X gN 3 #[.int .i64 (m : Nat)]) ∧ (RwS q X vA lA ∧ RwS q X r l) ∧ SlB X g bv bw fv fw many ∧ Below h w X
theorem IsB.kept {h g bv bw gL gN q many r0 m : Nat} {k : Int} {vA r : Value} {lA l : List Rw} {fv fw : Nat → Option (Nat × Nat)} {w X Y : World} {row : Option Nat} (hi : IsB h g bv bw gL gN q many k vA r lA l fv fw w m X) (hg : X.grownBy Y row) (h1 : h + 2 < r0 ∧ g < r0 ∧ bv < r0 ∧ bw < r0 ∧ gL < r0 ∧ gN < r0 ∧ q ≤ r0) (hs : h ≤ w.heap.size) (hr : ∀ x, row = some x → r0 ≤ x) : IsB h g bv bw gL gN q many k vA r lA l fv fw w m Y := by
  obtain ⟨⟨a0, a1, a2, a3, a4⟩, ⟨a5, a6⟩, a7, a8⟩ := hi
  have hk : ∀ i, i < r0 → i < X.heap.size → Y.heap[i]? = X.heap[i]? := fun i hi hx => hg.block i hx (fun e => by have := hr i e.symm; omega)
  have hne : ∀ i, i < r0 → ¬ (some i = row) := fun i hi e => by have := hr i e.symm; omega
  refine ⟨⟨(hk _ (by omega) a0.lt).trans a0, (hk _ (by omega) a1.lt).trans a1, (hk _ (by omega) a2.lt).trans a2, (hk _ (by omega) a3.lt).trans a3, (hk _ (by omega) a4.lt).trans a4⟩, ⟨a5.kept hg.size (fun b hb hx => hk b (by omega) hx), a6.kept hg.size (fun b hb hx => hk b (by omega) hx)⟩, a7.chg (Chg.of hg) (hne _ (by omega)) (hne _ (by omega)) (hne _ (by omega)), a8.grown hg (Nat.le_trans hs a8.size) (fun x e => by have := hr x e; omega)⟩
theorem IsB.count {h g bv bw gL gN q many m : Nat} {k : Int} {vA r : Value} {lA l : List Rw} {fv fw : Nat → Option (Nat × Nat)} {w X : World} (hi : IsB h g bv bw gL gN q many k vA r lA l fv fw w m X) (h1 : h + 2 < gN ∧ g < gN ∧ bv < gN ∧ bw < gN ∧ gL < gN ∧ q ≤ gN) (hs : h ≤ w.heap.size) :
    IsB h g bv bw gL gN q many k vA r lA l fv fw w (m + 1) (X.setCell ⟨gN, 0, none⟩ (.int .i64 ((m : Int) + 1))) := by
  obtain ⟨⟨a0, a1, a2, a3, a4⟩, ⟨a5, a6⟩, a7, a8⟩ := hi
  obtain ⟨Y, hY⟩ : ∃ Y, X.setCell ⟨gN, 0, none⟩ (.int .i64 ((m : Int) + 1)) = Y := ⟨_, rfl⟩
  have hg : X.grownBy Y (some gN) := by rw [← hY]; exact grown_set' (grown_refl X gN) 0 _
  have k4 : Blk Y gN 3 #[.int .i64 ((m : Int) + 1)] := by rw [← hY]; exact heap_setCell_same X gN 0 _ _ _ a4
  rw [hY]
  have hk : ∀ i, i < gN → i < X.heap.size → Y.heap[i]? = X.heap[i]? := fun i hi hx => hg.block i hx (fun e => by have := Option.some.inj e; omega)
  have hne : ∀ i, i < gN → ¬ (some i = some gN) := fun i hi e => by have := Option.some.inj e; omega
  exact ⟨⟨(hk _ (by omega) a0.lt).trans a0, (hk _ (by omega) a1.lt).trans a1, (hk _ (by omega) a2.lt).trans a2, (hk _ (by omega) a3.lt).trans a3, k4⟩, ⟨a5.kept hg.size (fun b hb hx => hk b (by omega) hx), a6.kept hg.size (fun b hb hx => hk b (by omega) hx)⟩, a7.chg (Chg.of hg) (hne _ (by omega)) (hne _ (by omega)) (hne _ (by omega)), a8.grown hg (Nat.le_trans hs a8.size) (fun x e => by have := Option.some.inj e; omega)⟩
/-- A drawn region in a round that reads: walked once. -/
theorem wpIn_region_quiet_round {n : Nat} {P : Program} {id : Nat} {Q : Exit → Act → World → Prop} {a : Act} {w : World} {l : List Oper} (l2 : Nat) (hm : P.follows .mixedOrders = true)
    (hnd : (l.toArray.all fun o => match o.op with | .defer _ => false | _ => true) = true) (hB : Region.lexB .any l.toArray = true)
    (h : wpQuietIn Fence.wide n P l.toArray (fun w' => ∃ n, w' = w.drewN n) (fun a' => ∀ w', (∃ n, w' = w.drewN n) → Q .normal a' w') l a) : (Code.region id l.toArray true).wpIn (Fence.wide.inRound l2) n P Q a w := by
  simp only [Region.lexB, Bool.and_eq_true] at hB
  refine wpIn_region_round l2 hm hnd (wpAnyIn_of_quiet (C := fun w' => ∃ n, w' = w.drewN n) (Q := fun a' => ∀ w', (∃ n, w' = w.drewN n) → Q .normal a' w') rfl (fun _ w' hw' h => h w' hw') _ _ _ _ ⟨1, rfl⟩ ?_)
  have := wpAnyQIn_lex (F := Fence.wide) (n := n) (C := fun w' => ∃ n, w' = w.drewN n) (md := .any) hB.1 l 0 (Array.replicate l.toArray.size false) a (by simp) (by simpa using hB.2) (by simpa using h)
  simpa using this
theorem many_done (N : Nat) (n : Int) (h : N = 0 ∨ (N : Int) < n) : min (N : Int) (max 1 n) = N := by omega
theorem many_left (N k : Nat) (n : Int) (h1 : k ≤ N) (h0 : 0 < k) (h2 : n ≤ k) (h3 : k = 1 ∨ (k : Int) - 1 < n) : min (N : Int) (max 1 n) = k := by omega
theorem ex_frameI {T : Array Value} {D : List Deferred} {F : (Nat → Value) → Act} (h : ({ tmps := T, defers := D } : Act) = F (fun i => T.getD i .nilFunc)) : ∃ y, ({ tmps := T, defers := D } : Act) = F y := ⟨_, h⟩
theorem enters_all (args : Array Value) (w : World) : (callFunc 32 args).run Try.prog w = .ok (.enter 32 args) w := by kernel_rfl
set_option maxRecDepth 100000 in
set_option maxHeartbeats 8000000 in
theorem is_any (D : Nat) (p r : Value) (l : List Rw) (k : Int) (w : World) (h : StW D w p r l) (hll : l.length ≤ 1000) :
    Calls Try.prog 9 #[p, .agg #[r], .int .i64 k] w fun e w' => e = .returned (.bool true) ∧ Below w.heap.size w w' := by
  obtain ⟨g, bv, bw, many, fv, fw, rfl, hs, ho, hrel, hcnt, _, _, _⟩ := h
  obtain ⟨X, hX⟩ : ∃ X, ((w.alloc (.cells #[r] 31)).alloc (.cells #[.int .i64 k] 3)).alloc (.cells #[.bool false] 4) = X := ⟨_, rfl⟩
  have hB : Below w.heap.size w X := by rw [← hX]; exact balloc (balloc (balloc (Below.refl _ _) _) _) _
  have b0 : Blk X w.heap.size 31 #[r] := by rw [← hX]; exact ((Blk.new _ _ _).alloc _).alloc _
  have b1 : Blk X (w.heap.size + 1) 3 #[.int .i64 k] := by rw [← hX]; exact (Blk.newS _ _ _ _).alloc _
  have b2 : Blk X (w.heap.size + 2) 4 #[.bool false] := by
    rw [← hX]
    have h := Blk.newS (w.alloc (.cells #[r] 31)) (.cells #[.int .i64 k] 3) 4 #[.bool false]
    rwa [World.size_alloc] at h
  have HX := Lib.hid (And.intro hX (And.intro hB (And.intro b0 (And.intro b1 b2))))
  have HS := Lib.hid (And.intro (hs.keep hB) (And.intro (ho.keep hB) (And.intro hrel hcnt)))
  have HG := Lib.hid (show g < w.heap.size ∧ bv < w.heap.size ∧ bw < w.heap.size from ⟨hs.1.lt, hs.2.1.lt, hs.2.2.1.lt⟩)
  have HR := Lib.hid (rall_any D r l X (ho.keep hB) hll)
  have hlen := hrel.len hcnt
  have hml : many ≤ 1000 := by rw [← hlen]; unfold allL; exact Nat.le_trans (List.length_filter_le _ _) hll
  have HLN := Lib.hid (And.intro hlen hml)
  have HLL := Lib.hid hll
  have hnil : ∀ (p q : Value) w, (binOp .eql 46 (.func (.func 32) #[] #[p, q]) .nilFunc).run Try.prog w = .ok (.bool false) w := fun _ _ _ => by kernel_rfl
  have c0 : X.cell? ⟨w.heap.size, 0, none⟩ = some r := cell_of_row _ _ 0 _ _ _ b0
  clear hX hB b0 b1 b2 hs ho hrel hcnt hlen hml hll
  refine (callsIn_wide (n := 20)).1 ?_
  refine callsIn_of_wp_marks Try.func9 rfl trivial ?_ rfl
  simp only [Try.ntmps9, List.size_toArray, List.length_cons, List.length_nil, Nat.reduceAdd, Nat.reduceSub, Array.replicate_succ, Array.replicate_zero, List.push_toArray, List.append_toArray, List.nil_append, List.cons_append]
  refine (wpIn_wide (n := 20)).2 ?_
  go_upto_region 1 with fail
  rw [HX.out.1]
  go_upto_region 3 with (first
    | (go_at_call 22; refine (HR.out).mono ?_; rintro e z1 ⟨u, rfl, hO, hb⟩; obtain ⟨yu, cu, hu⟩ := hO.is; rw [HLN.out.1] at hu; subst hu; have H1 := Lib.hid (And.intro hO hb); clear hO hb; have HY := Lib.hid (fun Z (hZ : Below X.heap.size X Z) => sall_any g bv bw many fv fw Z (HS.out.1.keep hZ) (HS.out.2.2.1.many HLL.out)))
    | (go_at_call 14; refine (HY.out _ (balloc H1.out.2 _)).mono ?_; rintro e z2 ⟨gk, gm, ks, rfl, hA, hp1, hp2, hb⟩; have H2 := Lib.hid (And.intro hA (And.intro hp1 (And.intro hp2 hb))); clear hA hp1 hp2 hb)
    | fail)
  have hX2 : Below X.heap.size X z2 := bstep (balloc H1.out.2 _) H2.out.2.2.2
  have kL : Blk z2 z1.heap.size 29 #[.slice yu many cu] := (Blk.new z1 _ _).keep H2.out.2.2.2
  have cL : z2.cell? ⟨z1.heap.size, 0, none⟩ = some (.slice yu many cu) := cell_of_row _ _ 0 _ _ _ kL
  have hS2 := HS.out.1.keep hX2
  have HLe := Lib.hid (fun n => (len_any g bv bw many fv fw (z2.drewN n) (hS2.keep (below_drewN (Below.refl _ _) n))).mono fun e w' h => (⟨h.1, h.2.symm⟩ : e = .returned (.int .i64 (many : Nat)) ∧ w' = z2.drewN n))
  have q0 : ((many : Int) != (many : Int)) = false := by simp
  have HK := Lib.hid (And.intro hX2 (And.intro kL hS2))
  clear hX2 kL hS2 c0
  go_quiet ((go_at_call 18; refine (HLe.out _).mono ?_; rintro e w' ⟨rfl, rfl⟩; exact ⟨rfl, _, rfl⟩))
  obtain ⟨V, hV⟩ : ∃ V, z2.drewN nq = V := ⟨_, rfl⟩
  obtain ⟨gL, hgL⟩ : ∃ g, z1.heap.size = g := ⟨_, rfl⟩
  obtain ⟨vL, hvL⟩ : ∃ v, Value.slice yu many cu = v := ⟨_, rfl⟩
  have hzV : Below z2.heap.size z2 V := by rw [← hV]; exact below_drewN (Below.refl _ _) nq
  have hXs := HX.out.2.1.size
  have hzs := H1.out.2.size
  have hzl : gL < z2.heap.size := by rw [← hgL]; exact HK.out.2.1.lt
  have h2l := HX.out.2.2.2.2.lt
  have hXV : Below X.heap.size X V := bstep HK.out.1 hzV
  have hRA : RwS V.heap.size V vL (allL l) := by
    have h := RwS.of (H1.out.1)
    rw [hvL] at h
    exact (h.up (q2 := V.heap.size) (by have := (bstep (balloc (Below.refl z1.heap.size z1) _) H2.out.2.2.2).size; have := hzV.size; omega)).kept (by have := (bstep (balloc (Below.refl z1.heap.size z1) _) H2.out.2.2.2).size; have := hzV.size; omega) (fun b _ hb => (hzV.block b (Nat.lt_of_lt_of_le hb (bstep (balloc (Below.refl z1.heap.size z1) _) H2.out.2.2.2).size)).trans ((bstep (balloc (Below.refl z1.heap.size z1) _) H2.out.2.2.2).block b hb))
  have hRR : RwS V.heap.size V r l := ((RwS.of HS.out.2.1).up hXV.size).kept hXV.size (fun b _ hb => hXV.block b hb)
  have HV := Lib.hid (And.intro (HX.out.2.2.1.keep hXV) (And.intro (HX.out.2.2.2.1.keep hXV) (And.intro (HX.out.2.2.2.2.keep hXV) (And.intro (hgL ▸ HK.out.2.1.keep hzV : Blk V gL 29 #[.slice yu many cu]) (And.intro hRA (And.intro hRR (And.intro (HK.out.2.2.keep hzV) (HX.out.2.1.trans (hXV.mono hXs)))))))))
  rw [hV, hgL]
  go_wp2_with fail
  obtain ⟨gN, hgN⟩ : ∃ g, V.heap.size = g := ⟨_, rfl⟩
  obtain ⟨Z0, hZ0⟩ : ∃ Z, V.alloc (.cells #[.int .i64 0] 3) = Z := ⟨_, rfl⟩
  have hVZ : Below V.heap.size V Z0 := by rw [← hZ0]; exact balloc (Below.refl _ _) _
  have kN : Blk Z0 gN 3 #[.int .i64 (0 : Nat)] := by rw [← hZ0, ← hgN]; exact Blk.new V _ _
  have hsZ : Z0.heap.size = gN + 1 := by rw [← hZ0, World.size_alloc, hgN]
  have hks : ks = (allL l).map (·.1) := rise_unique H2.out.1.2 HS.out.2.2.1.rise
  have HI := Lib.hid (show IsB w.heap.size g bv bw gL gN gN many k vL r (allL l) l fv fw w 0 Z0 ∧ (0 = 0 ∨ ((0 : Nat) : Int) < k) from by
    obtain ⟨a0, a1, a2, a3, a4, a5, a6, a7⟩ := HV.out
    rw [← hgN]
    exact ⟨⟨⟨a0.keep hVZ, a1.keep hVZ, a2.keep hVZ, (hvL ▸ a3.keep hVZ), (hgN ▸ kN)⟩, ⟨a4.kept hVZ.size (fun b _ hb => hVZ.block b hb), a5.kept hVZ.size (fun b _ hb => hVZ.block b hb)⟩, a6.keep hVZ, a7.trans (hVZ.mono a7.size)⟩, .inl rfl⟩)
  have HG := Lib.hid (show w.heap.size + 2 < gN ∧ g < gN ∧ bv < gN ∧ bw < gN ∧ gL < gN ∧ Z0.heap.size = gN + 1 from by
    have := HG.out
    have := hzV.size
    have := hXV.size
    exact ⟨by omega, by omega, by omega, by omega, by omega, hsZ⟩)
  have HZ := Lib.hid (And.intro (bstep hzV hVZ) (show z2.heap.size ≤ gN from by rw [← hgN]; exact hzV.size))
  rw [hgN, hZ0]
  subst hks
  have HA := Lib.hid H2.out.1
  have HVL := Lib.hid hvL
  clear hvL hZ0 hVZ kN hsZ hV hgL hzV hXs hzs hzl h2l hXV hRA hRR HV hgN cL HLe q0 HK HX H2 HY HR hnil
  refine (wpIn_wide (n := 20)).1 ?_
  refine wpIn_rangeV (n := 20) (by omega) (gf := 32) (lb := #[.pointer (some ⟨gk, 0, none⟩), .pointer (some ⟨gm, 0, none⟩)]) rfl enters_all
    (all_seq (20 - 1) (by omega) gk gm gN _ (ovr fv fw) ((allL l).map (·.1)) z2 Z0 HA.out HZ.out.2 (by have := HG.out; omega) HZ.out.1 (by rw [List.length_map]; have := HLN.out; omega)) (Below.refl _ _) (by have := HG.out; omega) (fun k h => h.elim) (fun _ => rfl)
    (fun pre X => IsB w.heap.size g bv bw gL gN gN many k vL r (allL l) l fv fw w pre.length X ∧ (pre.length = 0 ∨ (pre.length : Int) < k))
    (fun c pre X => IsB w.heap.size g bv bw gL gN gN many k vL r (allL l) l fv fw w pre.length X ∧ (c = .exit 0 ∧ 0 < pre.length ∧ pre.length ≤ many ∧ k ≤ pre.length ∧ (pre.length = 1 ∨ (pre.length : Int) - 1 < k)))
    (fun pre X Y row h hw hr => ⟨h.1.kept (r0 := gN + 1) hw (by have := HG.out; omega) (Nat.le_refl _) (fun x e => by have := HG.out; rcases hr x e with h | h | h; exact h.elim; omega; omega), h.2⟩)
    (fun c pre X Y row h hw hr => ⟨h.1.kept (r0 := gN + 1) hw (by have := HG.out; omega) (Nat.le_refl _) (fun x e => by have := HG.out; rcases hr x e with h | h | h; exact h.elim; omega; omega), h.2⟩)
    (fun pre X h => trivial) HI.out
    (fun x a' Y => ∃ (gK gV : Nat), (∃ y : Nat → Value, a' = { tmps := #[.pointer (some ⟨g, 0, none⟩), y 1, y 2, y 3, .pointer (some ⟨w.heap.size, 0, none⟩), .pointer (some ⟨w.heap.size + 1, 0, none⟩), .pointer (some ⟨w.heap.size + 2, 0, none⟩), .pointer (some ⟨gL, 0, none⟩), .func (.func 32) #[] #[.pointer (some ⟨gk, 0, none⟩), .pointer (some ⟨gm, 0, none⟩)], .pointer (some ⟨gN, 0, none⟩), .pointer (some ⟨gK, 0, none⟩), .pointer (some ⟨gV, 0, none⟩), y 12, y 13, y 14, y 15, y 16, y 17, y 18, y 19, y 20, y 21, y 22, y 23, y 24, y 25, y 26, y 27, y 28, y 29, y 30, y 31, y 32, y 33, y 34, y 35, y 36, y 37, y 38, y 39, y 40, y 41, y 42, y 43, y 44, y 45, y 46, y 47, y 48, y 49, y 50, y 51, y 52, y 53, y 54, y 55, y 56, y 57, y 58, y 59, y 60, y 61, y 62, y 63, y 64, y 65, y 66, y 67, y 68, y 69, y 70, y 71, y 72, y 73, y 74, y 75, y 76, y 77, y 78, y 79, y 80, y 81, y 82, y 83, y 84, y 85, y 86, y 87, y 88, y 89, y 90, y 91, y 92, y 93, y 94, y 95, y 96, y 97, y 98, y 99, y 100, y 101], defers := [] }) ∧ Blk Y gK 25 (Wc x) ∧ Blk Y gV 36 (vA (lk (ovr fv fw) x).1 (lk (ovr fv fw) x).2) ∧ gN + 2 < gK ∧ gN + 2 < gV)
    (fun x a' s X Y row hs hw hr => by
      obtain ⟨gK, gV, e, k1, k2, h1, h2⟩ := hs
      have hz := HG.out.2.2.2.2.2
      exact ⟨gK, gV, e, k1.kept hw (fun e => by have := hr _ e.symm; omega), k2.kept hw (fun e => by have := hr _ e.symm; omega), h1, h2⟩)
    ?assign ?body ?done ?stop
  case assign =>
    rintro l2 pre x X K _ hlt hi hK
    gi_wp2_with fail
    obtain ⟨Y, hY⟩ : ∃ Y, (X.alloc (.cells (Wc x) 25)).alloc (.cells (vA (lk (ovr fv fw) x).1 (lk (ovr fv fw) x).2) 36) = Y := ⟨_, rfl⟩
    have hXY : Below X.heap.size X Y := by rw [← hY]; exact balloc (balloc (Below.refl _ _) _) _
    have hz := HG.out.2.2.2.2.2
    rw [hY]
    exact hK _ _ (KeptM.new hXY) (hXY.mono (by omega)) ⟨hi.1.kept (r0 := gN + 1) (row := none) (grown_new hXY) (by have := HG.out; omega) (Nat.le_refl _) (fun _ e => by cases e), hi.2⟩ (by
      refine ⟨X.heap.size, X.heap.size + 1, ex_frameI (by rfl), ?_⟩
      exact ⟨by rw [← hY]; exact (Blk.new X _ _).alloc _, by rw [← hY]; exact Blk.newS X _ _ _, by omega, by omega⟩)
  case body =>
    rintro l2 pre x a' X hl2 ⟨i, hix, hpre⟩ hlo ⟨hi, hk⟩ ⟨gK, gV, ⟨y, rfl⟩, kK, kV, hgK, hgV⟩
    obtain ⟨row, hrow, rfl⟩ : ∃ row, (allL l)[i]? = some row ∧ row.1 = x := by
      rw [List.getElem?_map] at hix
      obtain ⟨row, h1, h2⟩ := Option.map_eq_some_iff.1 hix
      exact ⟨row, h1, h2⟩
    obtain ⟨hil, _⟩ := List.getElem?_eq_some_iff.1 hrow
    have hpl : pre.length = i := by rw [hpre, List.length_take, List.length_map]; omega
    have hval := HS.out.2.2.1.all_at hrow
    have hok : row.1 < MM := HA.out.2.2.2 _ (List.mem_map_of_mem (List.mem_of_getElem? hrow))
    have hokv : okP row.2.1 := (H1.out.1.1 row (List.mem_of_getElem? hrow)).2.1
    rw [← hval] at kV
    rw [HLN.out.1] at hil
    have hsn : (pre ++ [row.1]).length = i + 1 := by rw [List.length_append, hpl]; rfl
    obtain ⟨b, o, c, e9, hb1, hb2, hcl⟩ := hi.2.1.1 i row hrow
    rw [HLN.out.1] at e9
    rw [hpl] at hi hk
    have cN : X.cell? ⟨gN, 0, none⟩ = some (.int .i64 (i : Nat)) := cell_of_row X _ 0 _ _ _ hi.1.2.2.2.2
    have cL : X.cell? ⟨gL, 0, none⟩ = some (.slice (some ⟨b, o, none⟩) many c) := by rw [← e9]; exact cell_of_row X _ 0 _ _ _ hi.1.2.2.2.1
    have hilI : (i : Int) < (many : Int) := by omega
    have hilJ : ¬ (many : Int) ≤ (i : Int) := by omega
    have hdl : decide ((many : Int) ≤ (i : Int)) = false := decide_eq_false (by omega)
    have hdn : decide (many ≤ i) = false := decide_eq_false (by omega)
    have q0 : X.cell? ⟨b, o + i * 14, none⟩ = some (.int .u64 (lb row.1 0)) := hcl 0 (by omega)
    have q1 : X.cell? ⟨b, o + i * 14 + 1, none⟩ = some (.int .u64 (lb row.1 1)) := hcl 1 (by omega)
    have q2 : X.cell? ⟨b, o + i * 14 + 2, none⟩ = some (.int .u64 (lb row.1 2)) := hcl 2 (by omega)
    have q3 : X.cell? ⟨b, o + i * 14 + 3, none⟩ = some (.int .u64 (lb row.1 3)) := hcl 3 (by omega)
    have q4 : X.cell? ⟨b, o + i * 14 + 4, none⟩ = some (.int .u64 (lb row.2.1.1 0)) := hcl 4 (by omega)
    have q5 : X.cell? ⟨b, o + i * 14 + 5, none⟩ = some (.int .u64 (lb row.2.1.1 1)) := hcl 5 (by omega)
    have q6 : X.cell? ⟨b, o + i * 14 + 6, none⟩ = some (.int .u64 (lb row.2.1.1 2)) := hcl 6 (by omega)
    have q7 : X.cell? ⟨b, o + i * 14 + 7, none⟩ = some (.int .u64 (lb row.2.1.1 3)) := hcl 7 (by omega)
    have q8 : X.cell? ⟨b, o + i * 14 + 8, none⟩ = some (.int .u64 (row.2.1.2 : Nat)) := hcl 8 (by omega)
    have x0 : X.cell? ⟨gK, 0, none⟩ = some (.int .u64 (lb row.1 0)) := cell_of_row X _ 0 _ _ _ kK
    have x1 : X.cell? ⟨gK, 1, none⟩ = some (.int .u64 (lb row.1 1)) := cell_of_row X _ 1 _ _ _ kK
    have x2 : X.cell? ⟨gK, 2, none⟩ = some (.int .u64 (lb row.1 2)) := cell_of_row X _ 2 _ _ _ kK
    have x3 : X.cell? ⟨gK, 3, none⟩ = some (.int .u64 (lb row.1 3)) := cell_of_row X _ 3 _ _ _ kK
    have v0 : X.cell? ⟨gV, 0, none⟩ = some (.int .u64 (lb row.2.1.1 0)) := cell_of_row X _ 0 _ _ _ kV
    have v1 : X.cell? ⟨gV, 1, none⟩ = some (.int .u64 (lb row.2.1.1 1)) := cell_of_row X _ 1 _ _ _ kV
    have v2 : X.cell? ⟨gV, 2, none⟩ = some (.int .u64 (lb row.2.1.1 2)) := cell_of_row X _ 2 _ _ _ kV
    have v3 : X.cell? ⟨gV, 3, none⟩ = some (.int .u64 (lb row.2.1.1 3)) := cell_of_row X _ 3 _ _ _ kV
    have v4 : X.cell? ⟨gV, 4, none⟩ = some (.int .u64 (row.2.1.2 : Nat)) := cell_of_row X _ 4 _ _ _ kV
    have nw := fun X => neqWR row.1 row.1 hok hok X
    have nv := fun X => neqVal_R row.2.1 row.2.1 hokv hokv X
    rw [show (!(row.1 == row.1)) = false by simp] at nw
    rw [show (!(decide (row.2.1 = row.2.1))) = false by simp] at nv
    have HBD := Lib.hid (And.intro hi (And.intro hk (And.intro hpl hsn)))
    have HIL := Lib.hid hil
    clear hix hi hk hl2 hpl hsn hrow hval hok hokv hil kK kV hcl e9 hb1 hb2 hlo hpre hgK hgV
    gi_wp2_with fail
    refine wpIn_region_quiet_round l2 (by kernel_rfl) (by kernel_rfl) (by kernel_rfl) ?_
    iterate 22 (quiet_step_in (fail))
    refine wpQuietIn_nil ?_
    intro _ hw'
    obtain ⟨nq2, hw''⟩ := hw'
    subst hw''
    obtain ⟨hI, hk, hpl, hsn⟩ := HBD.out
    have hil := HIL.out
    have hml := HLN.out.2
    obtain ⟨Xq, hXq⟩ : ∃ Xq, X.drewN nq2 = Xq := ⟨_, rfl⟩
    have hGq : X.grownBy Xq none := by rw [← hXq]; exact ⟨rfl, rfl, rfl, Nat.le_refl _, fun _ _ _ => rfl⟩
    have hBX : Below gN X Xq := by rw [← hXq]; exact below_drewN (Below.refl _ X) nq2
    have hIq := hI.kept (r0 := gN + 1) hGq (by have := HG.out; omega) (Nat.le_refl _) (fun _ e => by cases e)
    have hIz := hIq.count (by have := HG.out; omega) (Nat.le_refl _)
    have hKq : KeptM (fun k => noMs k ∨ k = Z0.heap.size ∨ k = Z0.heap.size + 1) X (Xq.setCell ⟨gN, 0, none⟩ (.int .i64 ((i : Int) + 1))) := (KeptM.grown hGq (fun r e => by cases e)).trans (KeptM.grown (grown_set' (grown_refl Xq gN) 0 _) (fun r e h => by cases e; have := HG.out; rcases h with h | h | h; exact h.elim; omega; omega))
    have hBz : Below gN X (Xq.setCell ⟨gN, 0, none⟩ (.int .i64 ((i : Int) + 1))) := hBX.setCell (p := ⟨gN, 0, none⟩) (by simp) _
    rw [hXq]
    have cN1 : Xq.cell? ⟨gN, 0, none⟩ = some (.int .i64 (i : Nat)) := cell_of_row Xq _ 0 _ _ _ hIq.1.2.2.2.2
    have fN := frozen_of_row Xq _ 0 _ _ hIq.1.2.2.2.2
    have cN2 : (Xq.setCell ⟨gN, 0, none⟩ (.int .i64 ((i : Int) + 1))).cell? ⟨gN, 0, none⟩ = some (.int .i64 ((i : Int) + 1)) := cell_of_row _ _ 0 _ _ _ hIz.1.2.2.2.2
    have cK2 : (Xq.setCell ⟨gN, 0, none⟩ (.int .i64 ((i : Int) + 1))).cell? ⟨w.heap.size + 1, 0, none⟩ = some (.int .i64 k) := cell_of_row _ _ 0 _ _ _ hIz.1.2.1
    have hwp : IntKind.i64.wrap ((i : Int) + 1) = (i : Int) + 1 := IntWalk.i64_in _ (by omega)
    have hlen : (pre ++ [row.1]).length = 1 ∨ (((pre ++ [row.1]).length : Nat) : Int) - 1 < k := by rw [hsn]; rcases hk with h | h; exact .inl (by omega); exact .inr (by omega)
    have hpos : 0 < (pre ++ [row.1]).length ∧ (pre ++ [row.1]).length ≤ many := by rw [hsn]; omega
    rw [← hsn] at hIz
    have HE := Lib.hid (And.intro hKq (And.intro hBz (And.intro hIz (And.intro hlen (And.intro hpos hsn)))))
    clear hI hk hpl hsn hXq hGq hBX hIq hIz hKq hBz hlen hpos q0 q1 q2 q3 q4 q5 q6 q7 q8 x0 x1 x2 x3 v0 v1 v2 v3 v4 nw nv cN cL HBD
    by_cases hlast : k ≤ (i : Int) + 1
    · have HKL := Lib.hid hlast
      gi_wp2_with fail
      exact ⟨HE.out.1, HE.out.2.2.1, rfl, HE.out.2.2.2.2.1.1, HE.out.2.2.2.2.1.2, by rw [HE.out.2.2.2.2.2]; have := HKL.out; omega, HE.out.2.2.2.1⟩
    · have HKL := Lib.hid hlast
      gi_wp2_with fail
      exact ⟨HE.out.1, HE.out.2.1, HE.out.2.2.1, .inr (by rw [HE.out.2.2.2.2.2]; have := HKL.out; omega)⟩
  case done =>
    rintro Dd xs X1 hD rfl ⟨hI0, hk⟩ hK
    rw [List.length_map, HLN.out.1] at hI0 hk
    have hm0 := many_done many k hk
    obtain ⟨n, hn⟩ : ∃ n, many = n := ⟨_, rfl⟩
    have hmin : min (many : Int) (max 1 k) = (n : Int) := by rw [← hn]; exact hm0
    have hI : IsB w.heap.size g bv bw gL gN gN many k vL r (allL l) l fv fw w n X1 := by rw [← hn]; exact hI0
    clear hk hn hI0 hm0
    have HT := Lib.hid (And.intro hD hmin)
    have HI1 := Lib.hid (show IsB w.heap.size g bv bw gL gN gN many k vL r (allL l) l fv fw w n X1 ∧ X1.heap[Dd]? = some (.deferred (some [])) from ⟨hI, hK⟩)
    obtain ⟨N, hN⟩ : ∃ N, l.length = N := ⟨_, rfl⟩
    have HN := Lib.hid (And.intro hN HLL.out)
    clear hI hK hmin hD HI
    go_wp2_with fail
    go_loopw [12] (fun i wr => ∃ k2 : Nat, k2 ≤ N ∧ i = .int .i64 k2 ∧ IsB w.heap.size g bv bw gL gN gN many k vL r (allL l) l fv fw w n wr ∧ wr.heap[Dd]? = some (.deferred (some []))) (fun i _ => N - (intOf i).toNat)
    case atStart => exact ⟨0, Nat.zero_le _, rfl, HI1.out⟩
    case round =>
      obtain ⟨k2, hk2, rfl, hI, hK⟩ := hrel
      obtain ⟨xr, cr, hr⟩ := HS.out.2.1.is
      rw [HN.out.1] at hr
      have cR : ∀ Z, Below wr.heap.size wr Z → Z.cell? ⟨w.heap.size, 0, none⟩ = some (.slice xr N cr) := fun Z h => by rw [← hr]; exact cell_of_row Z _ 0 _ _ _ (hI.1.1.keep h)
      have cR0 := cR wr (Below.refl _ _)
      by_cases hlt : k2 < N
      · have hltI : (k2 : Int) < (N : Int) := by omega
        obtain ⟨row, hrow⟩ : ∃ row, l[k2]? = some row := ⟨_, List.getElem?_eq_getElem (by rw [HN.out.1]; exact hlt)⟩
        have hmem := List.mem_of_getElem? hrow
        obtain ⟨b, o, c, e9, hb1, hb2, hcl⟩ := hI.2.1.2 k2 row hrow
        rw [HN.out.1, hr] at e9
        injection e9 with e1 e2 e3
        subst e1
        have hrl := HS.out.2.2.1
        have hokr := (hrl.2.1 row hmem).1
        have hQ := hrl.2.2.1 row.1
        rw [rowN_Q, rowQ_of_mem hrl.1 hmem] at hQ
        have hv1 : lk2 fv fw row.1 = row.2.1 := (congrArg (fun x : Rw => x.2.1) hQ).symm
        have hv2 : lk fw row.1 = row.2.2 := (congrArg (fun x : Rw => x.2.2) hQ).symm
        have HGT := Lib.hid (fun Z (hZ : Below wr.heap.size wr Z) => get_any g bv bw many fv fw row.1 hokr.1 Z (hI.2.2.1.keep hZ))
        have HWS := Lib.hid (fun Z (hZ : Below wr.heap.size wr Z) => was_any g bv bw many fv fw row.1 hokr.1 Z (hI.2.2.1.keep hZ))
        rw [hv1] at HGT
        rw [hv2] at HWS
        have nv1 := fun X => neqVal_R row.2.1 row.2.1 hokr.2.1 hokr.2.1 X
        have nv2 := fun X => neqVal_R row.2.2 row.2.2 hokr.2.2 hokr.2.2 X
        rw [show (!(decide (row.2.1 = row.2.1))) = false by simp] at nv1
        rw [show (!(decide (row.2.2 = row.2.2))) = false by simp] at nv2
        have q0 : ∀ Z, Below wr.heap.size wr Z → Z.cell? ⟨b, o + k2 * 14, none⟩ = some (.int .u64 (lb row.1 0)) := fun Z h => (h.cell (p := ⟨b, o + k2 * 14, none⟩) hb2).trans (hcl 0 (by omega))
        have q1 : ∀ Z, Below wr.heap.size wr Z → Z.cell? ⟨b, o + k2 * 14 + 1, none⟩ = some (.int .u64 (lb row.1 1)) := fun Z h => (h.cell (p := ⟨b, o + k2 * 14 + 1, none⟩) hb2).trans (hcl 1 (by omega))
        have q2 : ∀ Z, Below wr.heap.size wr Z → Z.cell? ⟨b, o + k2 * 14 + 2, none⟩ = some (.int .u64 (lb row.1 2)) := fun Z h => (h.cell (p := ⟨b, o + k2 * 14 + 2, none⟩) hb2).trans (hcl 2 (by omega))
        have q3 : ∀ Z, Below wr.heap.size wr Z → Z.cell? ⟨b, o + k2 * 14 + 3, none⟩ = some (.int .u64 (lb row.1 3)) := fun Z h => (h.cell (p := ⟨b, o + k2 * 14 + 3, none⟩) hb2).trans (hcl 3 (by omega))
        have q4 : ∀ Z, Below wr.heap.size wr Z → Z.cell? ⟨b, o + k2 * 14 + 4, none⟩ = some (.int .u64 (lb row.2.1.1 0)) := fun Z h => (h.cell (p := ⟨b, o + k2 * 14 + 4, none⟩) hb2).trans (hcl 4 (by omega))
        have q5 : ∀ Z, Below wr.heap.size wr Z → Z.cell? ⟨b, o + k2 * 14 + 5, none⟩ = some (.int .u64 (lb row.2.1.1 1)) := fun Z h => (h.cell (p := ⟨b, o + k2 * 14 + 5, none⟩) hb2).trans (hcl 5 (by omega))
        have q6 : ∀ Z, Below wr.heap.size wr Z → Z.cell? ⟨b, o + k2 * 14 + 6, none⟩ = some (.int .u64 (lb row.2.1.1 2)) := fun Z h => (h.cell (p := ⟨b, o + k2 * 14 + 6, none⟩) hb2).trans (hcl 6 (by omega))
        have q7 : ∀ Z, Below wr.heap.size wr Z → Z.cell? ⟨b, o + k2 * 14 + 7, none⟩ = some (.int .u64 (lb row.2.1.1 3)) := fun Z h => (h.cell (p := ⟨b, o + k2 * 14 + 7, none⟩) hb2).trans (hcl 7 (by omega))
        have q8 : ∀ Z, Below wr.heap.size wr Z → Z.cell? ⟨b, o + k2 * 14 + 8, none⟩ = some (.int .u64 (row.2.1.2 : Nat)) := fun Z h => (h.cell (p := ⟨b, o + k2 * 14 + 8, none⟩) hb2).trans (hcl 8 (by omega))
        have q9 : ∀ Z, Below wr.heap.size wr Z → Z.cell? ⟨b, o + k2 * 14 + 9, none⟩ = some (.int .u64 (lb row.2.2.1 0)) := fun Z h => (h.cell (p := ⟨b, o + k2 * 14 + 9, none⟩) hb2).trans (hcl 9 (by omega))
        have q10 : ∀ Z, Below wr.heap.size wr Z → Z.cell? ⟨b, o + k2 * 14 + 10, none⟩ = some (.int .u64 (lb row.2.2.1 1)) := fun Z h => (h.cell (p := ⟨b, o + k2 * 14 + 10, none⟩) hb2).trans (hcl 10 (by omega))
        have q11 : ∀ Z, Below wr.heap.size wr Z → Z.cell? ⟨b, o + k2 * 14 + 11, none⟩ = some (.int .u64 (lb row.2.2.1 2)) := fun Z h => (h.cell (p := ⟨b, o + k2 * 14 + 11, none⟩) hb2).trans (hcl 11 (by omega))
        have q12 : ∀ Z, Below wr.heap.size wr Z → Z.cell? ⟨b, o + k2 * 14 + 12, none⟩ = some (.int .u64 (lb row.2.2.1 3)) := fun Z h => (h.cell (p := ⟨b, o + k2 * 14 + 12, none⟩) hb2).trans (hcl 12 (by omega))
        have q13 : ∀ Z, Below wr.heap.size wr Z → Z.cell? ⟨b, o + k2 * 14 + 13, none⟩ = some (.int .u64 (row.2.2.2 : Nat)) := fun Z h => (h.cell (p := ⟨b, o + k2 * 14 + 13, none⟩) hb2).trans (hcl 13 (by omega))
        have hdl : decide (N ≤ k2) = false := decide_eq_false (by omega)
        have hdl2 : decide ((N : Int) ≤ (k2 : Int)) = false := decide_eq_false (by omega)
        have h0 : Below wr.heap.size wr wr.drew := below_drew' (Below.refl _ _)
        have HF := Lib.hid (And.intro hI hK)
        have HLT := Lib.hid hlt
        clear hI hK hrow hmem hb1 hb2 hcl e2 e3 hrl hokr hQ hv1 hv2 hr
        go_upto_region 16 with fail
        go_region_held3 (fun w' => Below wr.heap.size wr w') (first | with_reducible assumption) (first
          | (go_at_call 10; refine (HGT.out _ (by with_reducible assumption)).mono ?_; rintro e zz ⟨rfl, hz⟩; have hH : Below wr.heap.size wr zz := rstep hz h0; clear hz)
          | (go_at_call 12; refine (HWS.out _ hH).mono ?_; rintro e z9 ⟨rfl, hz⟩; have hH2 : Below wr.heap.size wr z9 := rstep hz hH; clear hz)
          | fail)
        all_goals
          have g1 : IntKind.i64.wrap ((k2 : Int) + 1) = ((k2 + 1 : Nat) : Int) := IntWalk.i64_in _ (by have := HN.out; have := HLT.out; omega)
          clear cR cR0 HGT HWS nv1 nv2 q0 q1 q2 q3 q4 q5 q6 q7 q8 q9 q10 q11 q12 q13 hdl hdl2 h0 hH hltI hlt hk2
          go_wp2_with fail
          go_roundw
          case rel => exact ⟨k2 + 1, by have := HLT.out; omega, rfl, HF.out.1.kept (r0 := gN + 1) (row := none) (grown_new hH2) (by have := HG.out; omega) (Nat.le_refl _) (fun _ e => by cases e), (hH2.block Dd (Array.getElem?_eq_some_iff.1 HF.out.2).1).trans HF.out.2⟩
          case measure => have := HLT.out; simp [intOf]; omega
      · have hlN := HN.out.1
        have hkN : k2 = N := by omega
        have hge : ¬ (k2 : Int) < (N : Int) := by omega
        have cN : wr.cell? ⟨gN, 0, none⟩ = some (.int .i64 (n : Nat)) := cell_of_row wr _ 0 _ _ _ hI.1.2.2.2.2
        have cL : wr.cell? ⟨gL, 0, none⟩ = some (.slice yu many cu) := by rw [HVL.out]; exact cell_of_row wr _ 0 _ _ _ hI.1.2.2.2.1
        have cK : wr.cell? ⟨w.heap.size + 1, 0, none⟩ = some (.int .i64 k) := cell_of_row wr _ 0 _ _ _ hI.1.2.1
        have b2 : Blk wr (w.heap.size + 1 + 1) 4 #[.bool false] := hI.1.2.2.1
        have fB := frozen_of_row wr _ 0 _ _ b2
        have cB := cell_of_row wr _ 0 _ _ _ b2
        have hmin := HT.out.2
        have hdY : (wr.setCell ⟨w.heap.size + 1 + 1, 0, none⟩ (.bool true)).heap[Dd]? = some (.deferred (some [])) := (Below.heap_setCell wr ⟨w.heap.size + 1 + 1, 0, none⟩ _ Dd (by have := HT.out.1; have := HG.out; simp; omega)).trans hK
        have bY : Blk (wr.setCell ⟨w.heap.size + 1 + 1, 0, none⟩ (.bool true)) (w.heap.size + 1 + 1) 4 #[.bool true] := heap_setCell_same wr _ 0 _ _ _ b2
        have hBY : Below w.heap.size w (wr.setCell ⟨w.heap.size + 1 + 1, 0, none⟩ (.bool true)) := hI.2.2.2.setCell (p := ⟨w.heap.size + 1 + 1, 0, none⟩) (by simp; omega) _
        have HY9 := Lib.hid (And.intro hdY (And.intro bY hBY))
        clear hr b2 hI hK hdY bY hBY cR hlt hk2 hkN hlN
        go_wp2_with fail
        obtain ⟨hdY, bY, hBY⟩ := HY9.out
        obtain ⟨Y9, hY9⟩ : ∃ Y9, wr.setCell ⟨w.heap.size + 1 + 1, 0, none⟩ (.bool true) = Y9 := ⟨_, rfl⟩
        rw [hY9] at hdY bY hBY ⊢
        have bY2 : Blk (Y9.putObj Dd (.deferred none)) (w.heap.size + 1 + 1) 4 #[.bool true] := bY.kept (grownBy_putObj' Y9 Dd _) (by intro e; have := HT.out.1; have := HG.out; injection e with e; omega)
        have r0 := cell_of_row _ _ 0 _ _ _ bY2
        refine ⟨by simp, .inl ⟨_, _, rfl, run_takeDeferred hdY, ?_⟩⟩
        exact ⟨.bool true, by simp [results, Try.results9, go_sem, r0], rfl, hBY.trans (below_put Y9 _ (by have := HT.out.1; have := HG.out; omega))⟩
  case stop =>
    rintro Dd c pre X1 hD _ ⟨hI, rfl, hp0, hpm, hkp, hp1⟩ hK
    have hmin := many_left many pre.length k hpm hp0 hkp hp1
    obtain ⟨n, hn⟩ : ∃ n, pre.length = n := ⟨_, rfl⟩
    rw [hn] at hmin hI
    clear hkp hp1 hp0 hpm hn
    have HT := Lib.hid (And.intro hD hmin)
    have HI1 := Lib.hid (show IsB w.heap.size g bv bw gL gN gN many k vL r (allL l) l fv fw w n X1 ∧ X1.heap[Dd]? = some (.deferred (some [])) from ⟨hI, hK⟩)
    obtain ⟨N, hN⟩ : ∃ N, l.length = N := ⟨_, rfl⟩
    have HN := Lib.hid (And.intro hN HLL.out)
    clear hI hK hmin hD HI
    gi_wp2_with fail
    go_wp2_with fail
    go_loopw [12] (fun i wr => ∃ k2 : Nat, k2 ≤ N ∧ i = .int .i64 k2 ∧ IsB w.heap.size g bv bw gL gN gN many k vL r (allL l) l fv fw w n wr ∧ wr.heap[Dd]? = some (.deferred (some []))) (fun i _ => N - (intOf i).toNat)
    case atStart => exact ⟨0, Nat.zero_le _, rfl, HI1.out⟩
    case round =>
      obtain ⟨k2, hk2, rfl, hI, hK⟩ := hrel
      obtain ⟨xr, cr, hr⟩ := HS.out.2.1.is
      rw [HN.out.1] at hr
      have cR : ∀ Z, Below wr.heap.size wr Z → Z.cell? ⟨w.heap.size, 0, none⟩ = some (.slice xr N cr) := fun Z h => by rw [← hr]; exact cell_of_row Z _ 0 _ _ _ (hI.1.1.keep h)
      have cR0 := cR wr (Below.refl _ _)
      by_cases hlt : k2 < N
      · have hltI : (k2 : Int) < (N : Int) := by omega
        obtain ⟨row, hrow⟩ : ∃ row, l[k2]? = some row := ⟨_, List.getElem?_eq_getElem (by rw [HN.out.1]; exact hlt)⟩
        have hmem := List.mem_of_getElem? hrow
        obtain ⟨b, o, c, e9, hb1, hb2, hcl⟩ := hI.2.1.2 k2 row hrow
        rw [HN.out.1, hr] at e9
        injection e9 with e1 e2 e3
        subst e1
        have hrl := HS.out.2.2.1
        have hokr := (hrl.2.1 row hmem).1
        have hQ := hrl.2.2.1 row.1
        rw [rowN_Q, rowQ_of_mem hrl.1 hmem] at hQ
        have hv1 : lk2 fv fw row.1 = row.2.1 := (congrArg (fun x : Rw => x.2.1) hQ).symm
        have hv2 : lk fw row.1 = row.2.2 := (congrArg (fun x : Rw => x.2.2) hQ).symm
        have HGT := Lib.hid (fun Z (hZ : Below wr.heap.size wr Z) => get_any g bv bw many fv fw row.1 hokr.1 Z (hI.2.2.1.keep hZ))
        have HWS := Lib.hid (fun Z (hZ : Below wr.heap.size wr Z) => was_any g bv bw many fv fw row.1 hokr.1 Z (hI.2.2.1.keep hZ))
        rw [hv1] at HGT
        rw [hv2] at HWS
        have nv1 := fun X => neqVal_R row.2.1 row.2.1 hokr.2.1 hokr.2.1 X
        have nv2 := fun X => neqVal_R row.2.2 row.2.2 hokr.2.2 hokr.2.2 X
        rw [show (!(decide (row.2.1 = row.2.1))) = false by simp] at nv1
        rw [show (!(decide (row.2.2 = row.2.2))) = false by simp] at nv2
        have q0 : ∀ Z, Below wr.heap.size wr Z → Z.cell? ⟨b, o + k2 * 14, none⟩ = some (.int .u64 (lb row.1 0)) := fun Z h => (h.cell (p := ⟨b, o + k2 * 14, none⟩) hb2).trans (hcl 0 (by omega))
        have q1 : ∀ Z, Below wr.heap.size wr Z → Z.cell? ⟨b, o + k2 * 14 + 1, none⟩ = some (.int .u64 (lb row.1 1)) := fun Z h => (h.cell (p := ⟨b, o + k2 * 14 + 1, none⟩) hb2).trans (hcl 1 (by omega))
        have q2 : ∀ Z, Below wr.heap.size wr Z → Z.cell? ⟨b, o + k2 * 14 + 2, none⟩ = some (.int .u64 (lb row.1 2)) := fun Z h => (h.cell (p := ⟨b, o + k2 * 14 + 2, none⟩) hb2).trans (hcl 2 (by omega))
        have q3 : ∀ Z, Below wr.heap.size wr Z → Z.cell? ⟨b, o + k2 * 14 + 3, none⟩ = some (.int .u64 (lb row.1 3)) := fun Z h => (h.cell (p := ⟨b, o + k2 * 14 + 3, none⟩) hb2).trans (hcl 3 (by omega))
        have q4 : ∀ Z, Below wr.heap.size wr Z → Z.cell? ⟨b, o + k2 * 14 + 4, none⟩ = some (.int .u64 (lb row.2.1.1 0)) := fun Z h => (h.cell (p := ⟨b, o + k2 * 14 + 4, none⟩) hb2).trans (hcl 4 (by omega))
        have q5 : ∀ Z, Below wr.heap.size wr Z → Z.cell? ⟨b, o + k2 * 14 + 5, none⟩ = some (.int .u64 (lb row.2.1.1 1)) := fun Z h => (h.cell (p := ⟨b, o + k2 * 14 + 5, none⟩) hb2).trans (hcl 5 (by omega))
        have q6 : ∀ Z, Below wr.heap.size wr Z → Z.cell? ⟨b, o + k2 * 14 + 6, none⟩ = some (.int .u64 (lb row.2.1.1 2)) := fun Z h => (h.cell (p := ⟨b, o + k2 * 14 + 6, none⟩) hb2).trans (hcl 6 (by omega))
        have q7 : ∀ Z, Below wr.heap.size wr Z → Z.cell? ⟨b, o + k2 * 14 + 7, none⟩ = some (.int .u64 (lb row.2.1.1 3)) := fun Z h => (h.cell (p := ⟨b, o + k2 * 14 + 7, none⟩) hb2).trans (hcl 7 (by omega))
        have q8 : ∀ Z, Below wr.heap.size wr Z → Z.cell? ⟨b, o + k2 * 14 + 8, none⟩ = some (.int .u64 (row.2.1.2 : Nat)) := fun Z h => (h.cell (p := ⟨b, o + k2 * 14 + 8, none⟩) hb2).trans (hcl 8 (by omega))
        have q9 : ∀ Z, Below wr.heap.size wr Z → Z.cell? ⟨b, o + k2 * 14 + 9, none⟩ = some (.int .u64 (lb row.2.2.1 0)) := fun Z h => (h.cell (p := ⟨b, o + k2 * 14 + 9, none⟩) hb2).trans (hcl 9 (by omega))
        have q10 : ∀ Z, Below wr.heap.size wr Z → Z.cell? ⟨b, o + k2 * 14 + 10, none⟩ = some (.int .u64 (lb row.2.2.1 1)) := fun Z h => (h.cell (p := ⟨b, o + k2 * 14 + 10, none⟩) hb2).trans (hcl 10 (by omega))
        have q11 : ∀ Z, Below wr.heap.size wr Z → Z.cell? ⟨b, o + k2 * 14 + 11, none⟩ = some (.int .u64 (lb row.2.2.1 2)) := fun Z h => (h.cell (p := ⟨b, o + k2 * 14 + 11, none⟩) hb2).trans (hcl 11 (by omega))
        have q12 : ∀ Z, Below wr.heap.size wr Z → Z.cell? ⟨b, o + k2 * 14 + 12, none⟩ = some (.int .u64 (lb row.2.2.1 3)) := fun Z h => (h.cell (p := ⟨b, o + k2 * 14 + 12, none⟩) hb2).trans (hcl 12 (by omega))
        have q13 : ∀ Z, Below wr.heap.size wr Z → Z.cell? ⟨b, o + k2 * 14 + 13, none⟩ = some (.int .u64 (row.2.2.2 : Nat)) := fun Z h => (h.cell (p := ⟨b, o + k2 * 14 + 13, none⟩) hb2).trans (hcl 13 (by omega))
        have hdl : decide (N ≤ k2) = false := decide_eq_false (by omega)
        have hdl2 : decide ((N : Int) ≤ (k2 : Int)) = false := decide_eq_false (by omega)
        have h0 : Below wr.heap.size wr wr.drew := below_drew' (Below.refl _ _)
        have HF := Lib.hid (And.intro hI hK)
        have HLT := Lib.hid hlt
        clear hI hK hrow hmem hb1 hb2 hcl e2 e3 hrl hokr hQ hv1 hv2 hr
        go_upto_region 16 with fail
        go_region_held3 (fun w' => Below wr.heap.size wr w') (first | with_reducible assumption) (first
          | (go_at_call 10; refine (HGT.out _ (by with_reducible assumption)).mono ?_; rintro e zz ⟨rfl, hz⟩; have hH : Below wr.heap.size wr zz := rstep hz h0; clear hz)
          | (go_at_call 12; refine (HWS.out _ hH).mono ?_; rintro e z9 ⟨rfl, hz⟩; have hH2 : Below wr.heap.size wr z9 := rstep hz hH; clear hz)
          | fail)
        all_goals
          have g1 : IntKind.i64.wrap ((k2 : Int) + 1) = ((k2 + 1 : Nat) : Int) := IntWalk.i64_in _ (by have := HN.out; have := HLT.out; omega)
          clear cR cR0 HGT HWS nv1 nv2 q0 q1 q2 q3 q4 q5 q6 q7 q8 q9 q10 q11 q12 q13 hdl hdl2 h0 hH hltI hlt hk2
          go_wp2_with fail
          go_roundw
          case rel => exact ⟨k2 + 1, by have := HLT.out; omega, rfl, HF.out.1.kept (r0 := gN + 1) (row := none) (grown_new hH2) (by have := HG.out; omega) (Nat.le_refl _) (fun _ e => by cases e), (hH2.block Dd (Array.getElem?_eq_some_iff.1 HF.out.2).1).trans HF.out.2⟩
          case measure => have := HLT.out; simp [intOf]; omega
      · have hlN := HN.out.1
        have hkN : k2 = N := by omega
        have hge : ¬ (k2 : Int) < (N : Int) := by omega
        have cN : wr.cell? ⟨gN, 0, none⟩ = some (.int .i64 (n : Nat)) := cell_of_row wr _ 0 _ _ _ hI.1.2.2.2.2
        have cL : wr.cell? ⟨gL, 0, none⟩ = some (.slice yu many cu) := by rw [HVL.out]; exact cell_of_row wr _ 0 _ _ _ hI.1.2.2.2.1
        have cK : wr.cell? ⟨w.heap.size + 1, 0, none⟩ = some (.int .i64 k) := cell_of_row wr _ 0 _ _ _ hI.1.2.1
        have b2 : Blk wr (w.heap.size + 1 + 1) 4 #[.bool false] := hI.1.2.2.1
        have fB := frozen_of_row wr _ 0 _ _ b2
        have cB := cell_of_row wr _ 0 _ _ _ b2
        have hmin := HT.out.2
        have hdY : (wr.setCell ⟨w.heap.size + 1 + 1, 0, none⟩ (.bool true)).heap[Dd]? = some (.deferred (some [])) := (Below.heap_setCell wr ⟨w.heap.size + 1 + 1, 0, none⟩ _ Dd (by have := HT.out.1; have := HG.out; simp; omega)).trans hK
        have bY : Blk (wr.setCell ⟨w.heap.size + 1 + 1, 0, none⟩ (.bool true)) (w.heap.size + 1 + 1) 4 #[.bool true] := heap_setCell_same wr _ 0 _ _ _ b2
        have hBY : Below w.heap.size w (wr.setCell ⟨w.heap.size + 1 + 1, 0, none⟩ (.bool true)) := hI.2.2.2.setCell (p := ⟨w.heap.size + 1 + 1, 0, none⟩) (by simp; omega) _
        have HY9 := Lib.hid (And.intro hdY (And.intro bY hBY))
        clear hr b2 hI hK hdY bY hBY cR hlt hk2 hkN hlN
        go_wp2_with fail
        obtain ⟨hdY, bY, hBY⟩ := HY9.out
        obtain ⟨Y9, hY9⟩ : ∃ Y9, wr.setCell ⟨w.heap.size + 1 + 1, 0, none⟩ (.bool true) = Y9 := ⟨_, rfl⟩
        rw [hY9] at hdY bY hBY ⊢
        have bY2 : Blk (Y9.putObj Dd (.deferred none)) (w.heap.size + 1 + 1) 4 #[.bool true] := bY.kept (grownBy_putObj' Y9 Dd _) (by intro e; have := HT.out.1; have := HG.out; injection e with e; omega)
        have r0 := cell_of_row _ _ 0 _ _ _ bY2
        refine ⟨by simp, .inl ⟨_, _, rfl, run_takeDeferred hdY, ?_⟩⟩
        exact ⟨.bool true, by simp [results, Try.results9, go_sem, r0], rfl, hBY.trans (below_put Y9 _ (by have := HT.out.1; have := HG.out; omega))⟩
end Go.Proofs.Ytcfnhilcpfiocaa

/- slot: SlotPlays' walk. -/
namespace Go.Proofs.Ytcfnhilcpfiocaa
open Go.RowKit Go.Shelf Go.ChangeMaps Go.MapKept
attribute [local go_sem] Oper.semAt_some
/-- What cannot panic need not say what follows a panic. -/
def noPanic (Q : Exit → Act → World → Prop) : Exit → Act → World → Prop
  | .panic _, _, _ => False
  | e, a, w => Q e a w
theorem wp_noPanic {P : Program} {c : Code} {Q : Exit → Act → World → Prop} {a : Act} {w : World} (h : c.wp P (noPanic Q) a w) : c.wp P Q a w :=
  wp_mono h fun e a w hq => by cases e <;> first | exact hq | exact hq.elim
theorem put_len (l : List Rw) (n : Nat) (v : Nat × Nat) : (putL l n v).length ≤ l.length + 1 := by
  unfold putL
  rw [List.length_append, List.length_append]
  have h1 : (midL n v (rowN l n).2.2).length ≤ 1 := by unfold midL; split <;> simp
  have h2 : ((l.dropWhile (fun r => decide (r.1 < n))).filter (fun r => decide (r.1 ≠ n))).length ≤ (l.dropWhile (fun r => decide (r.1 < n))).length := List.length_filter_le _ _
  have h3 : (l.takeWhile (fun r => decide (r.1 < n))).length + (l.dropWhile (fun r => decide (r.1 < n))).length = l.length := by rw [← List.length_append, List.takeWhile_append_dropWhile]
  omega
theorem ac_len (l : List Rw) (z : Int) (y : Nat) (v : Nat × Nat) : (acL l z y v).length ≤ l.length + 1 := by
  unfold acL
  split
  · exact put_len l y v
  · split
    · unfold settleL; rw [List.length_map]; have := List.length_filter_le (fun r : Rw => decide (r.2.1 ≠ Z2)) l; omega
    · omega
theorem StW.keep {D : Nat} {X Y : World} {p r : Value} {l : List Rw} (h : StW D X p r l) (hb : Below X.heap.size X Y) : StW D Y p r l := by
  obtain ⟨g, bv, bw, many, fv, fw, e, hs, ho, h1⟩ := h
  exact ⟨g, bv, bw, many, fv, fw, e, hs.keep hb, ho.keep hb, h1⟩
theorem StW.get {D : Nat} {X : World} {p r : Value} {l : List Rw} (h : StW D X p r l) (n : Nat) (hn : n < MM) : Calls Try.prog 10 #[p, W n] X fun e w' => e = .returned (vP (rowN l n).2.1) ∧ Below X.heap.size X w' := by
  obtain ⟨g, bv, bw, many, fv, fw, rfl, hs, ho, hr, h1⟩ := h
  have := get_any g bv bw many fv fw n hn X hs
  rw [hr.2.2.1 n]; exact this
theorem StW.was {D : Nat} {X : World} {p r : Value} {l : List Rw} (h : StW D X p r l) (n : Nat) (hn : n < MM) : Calls Try.prog 12 #[p, W n] X fun e w' => e = .returned (vP (rowN l n).2.2) ∧ Below X.heap.size X w' := by
  obtain ⟨g, bv, bw, many, fv, fw, rfl, hs, ho, hr, h1⟩ := h
  have := was_any g bv bw many fv fw n hn X hs
  rw [hr.2.2.1 n]; exact this
theorem StW.rows {D : Nat} {X : World} {p r : Value} {l : List Rw} (h : StW D X p r l) : OwR X D r l := by
  obtain ⟨g, bv, bw, many, fv, fw, rfl, hs, ho, h1⟩ := h
  exact ho
theorem StW.okN {D : Nat} {X : World} {p r : Value} {l : List Rw} (h : StW D X p r l) (n : Nat) : okP (rowN l n).2.1 ∧ okP (rowN l n).2.2 := by
  have h := h.rows
  rw [rowN_Q]
  cases hq : rowQ l n with
  | none => exact ⟨okP0, okP0⟩
  | some x => exact (h.1 x (rowQ_mem hq).1).2
theorem StW.ptr {D : Nat} {X : World} {p r : Value} {l : List Rw} (h : StW D X p r l) : ∃ g bv bw many fv fw, p = .pointer (some ⟨g, 0, none⟩) ∧ SlB X g bv bw fv fw many := by
  obtain ⟨g, bv, bw, many, fv, fw, e, hs, _⟩ := h
  exact ⟨g, bv, bw, many, fv, fw, e, hs⟩
theorem As.atP {B : Nat} {X : World} {v : Value} {l : List (Int × Nat × Nat × Nat)} (h : As B X v l) {k : Nat} {a : Int × Nat × Nat × Nat} (hk : l[k]? = some a) : ∃ b o c, v = .slice (some ⟨b, o, none⟩) l.length c ∧ l.length ≤ c ∧ b < B ∧ b < X.heap.size ∧ okA a ∧ ∀ j, j < 10 → X.cell? ⟨b, o + k * 10 + j, none⟩ = (acC a)[j]? := by
  obtain ⟨h1, x, cap, rfl, h3, _, h5⟩ := h
  obtain ⟨b, o, rfl, hb, hx, hc⟩ := h5 (fun e => by rw [e] at hk; cases hk)
  exact ⟨b, o, cap, rfl, h3, hb, hx, h1 a (List.mem_of_getElem? hk), hc k a hk⟩
theorem StW.set {D b : Nat} {X : World} {p r u : Value} {l : List Rw} {cs : Array Value} (h : StW D X p r l) (hk : Blk X b 31 cs) : StW D (X.setCell ⟨b, 0, none⟩ u) p r l := by
  obtain ⟨g, bv, bw, many, fv, fw, e, hs, ho, h1⟩ := h
  have hgr := grown_set' (grown_refl X b) 0 u
  have e0 := box_ne hk hs.1 (by decide)
  have e1 := blk_ne_map hk hs.2.1
  have e2 := blk_ne_map hk hs.2.2.1
  have e3 := ho.apart hk (fun cs fr e => by injection e with _ e; exact absurd e (by decide))
  have hne : ∀ k, k ≠ b → ¬ (some k = some b) := fun k hk e => hk (Option.some.inj e)
  exact ⟨g, bv, bw, many, fv, fw, e, hs.chg (Chg.of hgr) (hne _ (Ne.symm e0)) (hne _ (Ne.symm e1)) (hne _ (Ne.symm e2)), ⟨ho.1, World.ownsRow.kept ho.2 hgr (.inr e3)⟩, h1⟩
theorem allN_seq (n gk gm n₀ : Nat) (w : World) (hA : AlN w gk gm) : SeqV n Try.prog 32 #[.pointer (some ⟨gk, 0, none⟩), .pointer (some ⟨gm, 0, none⟩)] (fun x : Nat => #[W x, vP (0, 0)]) n₀ noMs (fun _ _ => True) (fun _ _ => False) (fun xs => xs = []) (fun _ => False) w := by
  intro L J Jx W hW _ _ _ _ h0
  refine (all1N_in n L gk gm (J []) W (hA.keep hW) h0).mono ?_
  rintro e Y ⟨h1, h2⟩
  exact ⟨h1, .inl ⟨[], rfl, h2⟩⟩
/-- The worlds of a round ahead of its end. -/
def PlS (D gS : Nat) (W1 : World) (r : Value) (X : World) : Prop := Below D W1 X ∧ Blk X gS 31 #[r]
theorem act_cellsP {X w' : World} {b o k : Nat} {a : Int × Nat × Nat × Nat} (hb : b < X.heap.size) (h : ∀ j, j < 10 → X.cell? ⟨b, o + k * 10 + j, none⟩ = (acC a)[j]?) (hk : Below X.heap.size X w') (j : Nat) (hj : j < 10) : w'.cell? ⟨b, o + k * 10 + j, none⟩ = (acC a)[j]? :=
  (hk.cell (p := ⟨b, o + k * 10 + j, none⟩) hb).trans (h j hj)
/-- What stands between two calls. -/
def PlI (D gS : Nat) (W1 : World) (k : Nat) (p : Value) (X : World) : Prop := ∃ r L, StW D X p r L ∧ Blk X gS 31 #[r] ∧ L.length ≤ k ∧ Below D W1 X
set_option maxRecDepth 100000 in
set_option maxHeartbeats 8000000 in
theorem splays_walk (v0 : Value) (l : List (Int × Nat × Nat × Nat)) (n : Nat) (hn : n < MM) (w : World) (hl : As w.heap.size w v0 l) :
    Calls Try.prog 3 #[v0, W n] w fun e w' => e = .returned (.bool true) ∧ Below w.heap.size w w' := by
  have hl3 : l.length ≤ 9223372036854775807 := by obtain ⟨_, _, _, _, _, h, _⟩ := hl; exact h
  obtain ⟨W1, hW1⟩ : ∃ W1, (w.alloc (.cells (Wc n) 25)).alloc (.cells #[.bool false] 4) = W1 := ⟨_, rfl⟩
  have nK : Blk W1 w.heap.size 25 (Wc n) := by rw [← hW1]; exact (Blk.new _ _ _).alloc _
  have nV : Blk W1 (w.heap.size + 1) 4 #[.bool false] := by rw [← hW1]; exact Blk.newS _ _ _ _
  have hB1 : Below w.heap.size w W1 := by rw [← hW1]; exact balloc (balloc (Below.refl _ _) _) _
  have hs1 : W1.heap.size = w.heap.size + 2 := by rw [← hW1]; simp
  by_cases hlong : 40 < l.length
  · have hI : ((40 : Int) < (l.length : Int)) := by omega
    obtain ⟨x, c, rfl⟩ := hl.is
    have HX := Lib.hid (And.intro hW1 (And.intro hB1 nV))
    clear hl hl3 hlong hn hs1 nK nV hB1 hW1
    refine (callsIn_wide (n := 20)).1 ?_
    refine callsIn_of_wp_marks Try.func3 rfl trivial ?_ rfl
    simp only [Try.ntmps3, List.size_toArray, List.length_cons, List.length_nil, Nat.reduceAdd, Nat.reduceSub, Array.replicate_succ, Array.replicate_zero, List.push_toArray, List.append_toArray, List.nil_append, List.cons_append]
    refine (wpIn_wide (n := 20)).2 ?_
    go_upto_region 1 with fail
    rw [HX.out.1]
    go_wp2_with (first | (go_at_call 6; refine (sworks_any _).mono ?_; rintro e wz ⟨rfl, hz⟩; have hR := HX.out.2.2.keep hz; have f0 := frozen_of_row _ _ 0 _ _ hR; have d0 := cell_of_row _ _ 0 _ _ _ hR; have HZ := Lib.hid (And.intro hR hz); clear hz hR) | fail)
    have hT := heap_setCell_same wz (w.heap.size + 1) 0 _ _ (.bool true) HZ.out.1
    have q0 := cell_of_row _ _ 0 _ _ _ hT
    exact ⟨.bool true, by simp [results, Try.results3, go_sem, q0], rfl, (bstep HX.out.2.1 HZ.out.2).setCell (p := ⟨w.heap.size + 1, 0, none⟩) (by simp) _⟩
  have hI : ¬ ((40 : Int) < (l.length : Int)) := by omega
  have HA := Lib.hid (And.intro hl (And.intro hlong (And.intro hn (And.intro nK (And.intro nV (And.intro hB1 hs1))))))
  have HW1 := Lib.hid hW1
  obtain ⟨x, c, rfl⟩ := hl.is
  obtain ⟨N, hN⟩ : ∃ N, l.length = N := ⟨_, rfl⟩
  have HN := Lib.hid hN
  rw [hN] at hI HA ⊢
  clear hl hl3 hlong hn nK nV hB1 hW1 hN hs1
  refine (callsIn_wide (n := 20)).1 ?_
  refine callsIn_of_wp_marks Try.func3 rfl trivial ?_ rfl
  simp only [Try.ntmps3, List.size_toArray, List.length_cons, List.length_nil, Nat.reduceAdd, Nat.reduceSub, Array.replicate_succ, Array.replicate_zero, List.push_toArray, List.append_toArray, List.nil_append, List.cons_append]
  refine (wpIn_wide (n := 20)).2 ?_
  go_upto_region 1 with fail
  rw [HW1.out]
  go_upto_region 4 with (first
    | (go_at_call 7; refine (new_any W1).mono ?_; rintro e w2 ⟨g, bv, bw, rfl, hs, hg, hb1, hb2, hB⟩; have H2 := Lib.hid (And.intro hs (And.intro hg (And.intro hb1 (And.intro hb2 hB)))); clear hs hg hb1 hb2 hB)
    | fail)
  obtain ⟨W2, hW2⟩ : ∃ W2, w2.alloc (.cells #[.slice none 0 0] 31) = W2 := ⟨_, rfl⟩
  obtain ⟨gS, hgS⟩ : ∃ g, w2.heap.size = g := ⟨_, rfl⟩
  have hB2 : Below w2.heap.size w2 W2 := by rw [← hW2]; exact balloc (Below.refl _ _) _
  have HI0 := Lib.hid (show PlI W1.heap.size gS W1 0 (.pointer (some ⟨g, 0, none⟩)) W2 from ⟨.slice none 0 0, [], ⟨g, bv, bw, 0, fun _ => none, fun _ => none, rfl, H2.out.1.keep hB2, OwR.nil _ _, Rel.start, by show Cnt (fun _ => (0, 0)) 0; exact Cnt.none, H2.out.2.1, H2.out.2.2.1, H2.out.2.2.2.1⟩, by rw [← hW2, ← hgS]; exact Blk.new _ _ _, Nat.le_refl _, bstep H2.out.2.2.2.2 hB2⟩)
  have HGS := Lib.hid (show W1.heap.size ≤ gS from by rw [← hgS]; exact H2.out.2.2.2.2.size)
  have HW2 := Lib.hid (And.intro hgS hW2)
  clear hB2 hW2 hgS H2
  go_wp2_with fail
  rw [HW2.out.1, HW2.out.2]
  go_loopw [5, 7] (fun p i wr => ∃ k : Nat, k ≤ N ∧ i = .int .i64 k ∧ PlI W1.heap.size gS W1 k p wr) (fun _ i _ => N - (intOf i).toNat)
  case atStart => exact ⟨0, Nat.zero_le _, rfl, HI0.out⟩
  case round =>
    obtain ⟨k, hk, rfl, r, L, hst, hbS, hLk, hbl⟩ := hrel
    by_cases hlt : k < N
    · have hltI : (k : Int) < (N : Int) := by omega
      obtain ⟨a, ha⟩ : ∃ a, l[k]? = some a := ⟨_, List.getElem?_eq_getElem (by rw [HN.out]; exact hlt)⟩
      obtain ⟨b, o, c2, e, hcap, hb0, hbw, hok, hcell⟩   := As.atP HA.out.1 ha
      injection e with e1 e2 e3
      subst e1
      have hcl : ∀ w', Below W1.heap.size W1 w' → ∀ j, j < 10 → w'.cell? ⟨b, o + k * 10 + j, none⟩ = (acC a)[j]? := fun w' hk => act_cellsP hbw hcell (bstep HA.out.2.2.2.2.2.1 hk)
      obtain ⟨z0, y0, u0⟩ := a
      have HACT := Lib.hid (fun X (h : StW W1.heap.size X u5 r L) (hD : W1.heap.size ≤ X.heap.size) => act_any W1.heap.size u5 r L z0 y0 hok.2.1 u0 hok.2.2 X hD h (by have := HA.out; omega) (fun many hm => by have h2 : (allL L).length ≤ L.length := (by unfold allL; exact List.length_filter_le _ _); have := HA.out; omega))
      have cl0 : ∀ w', PlS W1.heap.size gS W1 r w' → w'.cell? ⟨b, o + k * 10, none⟩ = some (.int .i64 z0) := fun w' h => hcl w' h.1 0 (by omega)
      have cl1 : ∀ w', PlS W1.heap.size gS W1 r w' → w'.cell? ⟨b, o + k * 10 + 1, none⟩ = some (.int .u64 (lb y0 0)) := fun w' h => hcl w' h.1 1 (by omega)
      have cl2 : ∀ w', PlS W1.heap.size gS W1 r w' → w'.cell? ⟨b, o + k * 10 + 2, none⟩ = some (.int .u64 (lb y0 1)) := fun w' h => hcl w' h.1 2 (by omega)
      have cl3 : ∀ w', PlS W1.heap.size gS W1 r w' → w'.cell? ⟨b, o + k * 10 + 3, none⟩ = some (.int .u64 (lb y0 2)) := fun w' h => hcl w' h.1 3 (by omega)
      have cl4 : ∀ w', PlS W1.heap.size gS W1 r w' → w'.cell? ⟨b, o + k * 10 + 4, none⟩ = some (.int .u64 (lb y0 3)) := fun w' h => hcl w' h.1 4 (by omega)
      have cl5 : ∀ w', PlS W1.heap.size gS W1 r w' → w'.cell? ⟨b, o + k * 10 + 5, none⟩ = some (.int .u64 (lb u0.1 0)) := fun w' h => hcl w' h.1 5 (by omega)
      have cl6 : ∀ w', PlS W1.heap.size gS W1 r w' → w'.cell? ⟨b, o + k * 10 + 6, none⟩ = some (.int .u64 (lb u0.1 1)) := fun w' h => hcl w' h.1 6 (by omega)
      have cl7 : ∀ w', PlS W1.heap.size gS W1 r w' → w'.cell? ⟨b, o + k * 10 + 7, none⟩ = some (.int .u64 (lb u0.1 2)) := fun w' h => hcl w' h.1 7 (by omega)
      have cl8 : ∀ w', PlS W1.heap.size gS W1 r w' → w'.cell? ⟨b, o + k * 10 + 8, none⟩ = some (.int .u64 (lb u0.1 3)) := fun w' h => hcl w' h.1 8 (by omega)
      have cl9 : ∀ w', PlS W1.heap.size gS W1 r w' → w'.cell? ⟨b, o + k * 10 + 9, none⟩ = some (.int .u64 (u0.2 : Nat)) := fun w' h => hcl w' h.1 9 (by omega)
      have cS : ∀ w', PlS W1.heap.size gS W1 r w' → w'.cell? ⟨gS, 0, none⟩ = some r := fun w' h => cell_of_row _ _ 0 _ _ _ h.2
      have hdl : decide (N ≤ k) = false := decide_eq_false (by omega)
      have hdl2 : decide ((N : Int) ≤ (k : Int)) = false := decide_eq_false (by omega)
      have hS0 : PlS W1.heap.size gS W1 r wr.drew := ⟨hbl.trans (below_drew' (Below.refl _ _)), hbS⟩
      have hW0 : StW W1.heap.size wr.drew u5 r L := hst.keep (below_drew' (Below.refl _ _))
      have HL := Lib.hid (And.intro hLk hk)
      clear ha hcap hb0 hbw hok hcell hcl e2 e3 hst hbS hbl hLk hk
      go_upto_region 8 with fail
      go_cut [8, 9, 10] from 24 to 34 (fun p q t wx => ∃ (r2 : Value) (L2 : List Rw) (gT : Nat), q = .pointer (some ⟨gT, 0, none⟩) ∧ t = .bool true ∧ StW W1.heap.size wx p r2 L2 ∧ L2.length ≤ k + 1 ∧ Blk wx gS 31 #[r] ∧ Blk wx gT 31 #[r2] ∧ gS ≠ gT ∧ W1.heap.size ≤ gT ∧ Below W1.heap.size W1 wx)
      case first =>
        have hHd := hS0
        refine wp_noPanic ?_
        refine wp_region_held_drew (S := PlS W1.heap.size gS W1 r) (by as_aux_lemma => kernel_rfl) hHd (fun hHeld => ?_)
        simp only [List.size_toArray, List.length_cons, List.length_nil, Nat.reduceAdd, Array.replicate_succ, Array.replicate_zero, List.push_toArray, List.nil_append, List.cons_append]
        obtain ⟨wd, hwd⟩ : ∃ X, wr.drew = X := ⟨_, rfl⟩
        rw [hwd] at hS0 hW0 hHeld ⊢
        clear hHd hwd
        refine wpAnyH_take (i := 0) (oi := { dst := some 25, op := Op.move (Operand.tmp 5), type := 27, pos := "law.go:79", after := #[], guard := none }) (v := ?vq0) rfl (by as_aux_lemma => kernel_rfl) (by as_aux_lemma => kernel_rfl) (by as_aux_lemma => kernel_rfl) (fun _ _ _ h => h) (Or.inl ⟨by rfl, ?yq0⟩) (by assumption) ?rq0
        case yq0 => (intro w hSw; (try dsimp only at hSw); go_simp <;> with_reducible rfl)
        simp only [Act.put, List.setIfInBounds_toArray, List.set_cons_zero, List.set_cons_succ]
        refine wpAnyH_take (i := 1) (oi := { dst := some 26, op := Op.load 31 (Operand.tmp 6), type := 31, pos := "law.go:79", after := #[], guard := none }) (v := ?vq1) rfl (by as_aux_lemma => kernel_rfl) (by as_aux_lemma => kernel_rfl) (by as_aux_lemma => kernel_rfl) (fun _ _ _ h => h) (Or.inl ⟨by rfl, ?yq1⟩) (by assumption) ?rq1
        case yq1 => (intro w hSw; (try dsimp only at hSw); go_simp <;> with_reducible rfl)
        simp only [Act.put, List.setIfInBounds_toArray, List.set_cons_zero, List.set_cons_succ]
        refine wpAnyH_take (i := 2) (oi := { dst := some 27, op := Op.move (Operand.tmp 0), type := 22, pos := "law.go:79", after := #[], guard := none }) (v := ?vq2) rfl (by as_aux_lemma => kernel_rfl) (by as_aux_lemma => kernel_rfl) (by as_aux_lemma => kernel_rfl) (fun _ _ _ h => h) (Or.inl ⟨by rfl, ?yq2⟩) (by assumption) ?rq2
        case yq2 => (intro w hSw; (try dsimp only at hSw); go_simp <;> with_reducible rfl)
        simp only [Act.put, List.setIfInBounds_toArray, List.set_cons_zero, List.set_cons_succ]
        refine wpAnyH_take (i := 3) (oi := { dst := some 28, op := Op.move (Operand.tmp 7), type := 3, pos := "law.go:79", after := #[], guard := none }) (v := ?vq3) rfl (by as_aux_lemma => kernel_rfl) (by as_aux_lemma => kernel_rfl) (by as_aux_lemma => kernel_rfl) (fun _ _ _ h => h) (Or.inl ⟨by rfl, ?yq3⟩) (by assumption) ?rq3
        case yq3 => (intro w hSw; (try dsimp only at hSw); go_simp <;> with_reducible rfl)
        simp only [Act.put, List.setIfInBounds_toArray, List.set_cons_zero, List.set_cons_succ]
        refine wpAnyH_take (i := 4) (oi := { dst := some 29, op := Op.indexAddr 22 (Operand.tmp 27) (Operand.tmp 28), type := 0, pos := "law.go:79", after := #[{ on := 2, ground := Ground.data }, { on := 3, ground := Ground.data }], guard := none }) (v := ?vq4) rfl (by as_aux_lemma => kernel_rfl) (by as_aux_lemma => kernel_rfl) (by as_aux_lemma => kernel_rfl) (fun _ _ _ h => h) (Or.inl ⟨by rfl, ?yq4⟩) (by assumption) ?rq4
        case yq4 => (intro w hSw; (try dsimp only at hSw); go_simp <;> with_reducible rfl)
        simp only [Act.put, List.setIfInBounds_toArray, List.set_cons_zero, List.set_cons_succ]
        refine wpAnyH_take (i := 5) (oi := { dst := some 30, op := Op.load 38 (Operand.tmp 29), type := 38, pos := "law.go:79", after := #[{ on := 4, ground := Ground.data }], guard := none }) (v := ?vq5) rfl (by as_aux_lemma => kernel_rfl) (by as_aux_lemma => kernel_rfl) (by as_aux_lemma => kernel_rfl) (fun _ _ _ h => h) (Or.inl ⟨by rfl, ?yq5⟩) (by assumption) ?rq5
        case yq5 => (intro w hSw; (try dsimp only at hSw); go_simp <;> with_reducible rfl)
        simp only [Act.put, List.setIfInBounds_toArray, List.set_cons_zero, List.set_cons_succ]
        refine wpAnyH_ready (rs := [6, 11]) (by as_aux_lemma => kernel_rfl) (by simp) ?_
        refine AllReadyH.cons (o := { dst := some 31, op := Op.call { callee := Callee.value (Operand.func 8), args := #[Operand.tmp 25, Operand.tmp 26, Operand.tmp 30], argTypes := #[27, 31, 38] }, type := 32, pos := "law.go:79", after := #[{ on := 0, ground := Ground.data }, { on := 1, ground := Ground.data }, { on := 5, ground := Ground.data }], guard := none }) rfl (fun K hK => ?_) ?_
        · rw [if_pos (by rfl)]
          go_simp
          (go_at_call 8; refine (HACT.out _ hW0 hS0.1.size).mono ?_; rintro e z6 ⟨pz6, rz6, rfl, hWz6, hBz6, hkz6⟩; obtain ⟨xz6, mz6, cz6, rfl⟩ : ∃ x m c, rz6 = .slice x m c := (by obtain ⟨x, c, h⟩ := hWz6.rows.is; exact ⟨x, _, c, h⟩))
          have hSz6 : PlS W1.heap.size gS W1 r z6 := ⟨hS0.1.trans hBz6, hkz6 _ _ hS0.2⟩
          refine hK.out _ _ (by (try dsimp only); exact hSz6) (fun hHeld => ?_)
          clear hK K
          simp only [List.setIfInBounds_toArray, List.set_cons_zero, List.set_cons_succ]
          refine wpAnyH_take (i := 7) (oi := { dst := some 24, op := Op.move (Operand.tmp 31), type := 32, pos := "law.go:79", after := #[{ on := 6, ground := Ground.data }], guard := none }) (v := ?vq7) rfl (by as_aux_lemma => kernel_rfl) (by as_aux_lemma => kernel_rfl) (by as_aux_lemma => kernel_rfl) (fun _ _ _ h => h) (Or.inl ⟨by rfl, ?yq7⟩) (by assumption) ?rq7
          case yq7 => (intro w hSw; (try dsimp only at hSw); go_simp <;> with_reducible rfl)
          simp only [Act.put, List.setIfInBounds_toArray, List.set_cons_zero, List.set_cons_succ]
          refine wpAnyH_take (i := 8) (oi := { dst := some 32, op := Op.extract (Operand.tmp 24) 0, type := 27, pos := "law.go:79", after := #[{ on := 7, ground := Ground.data }], guard := none }) (v := ?vq8) rfl (by as_aux_lemma => kernel_rfl) (by as_aux_lemma => kernel_rfl) (by as_aux_lemma => kernel_rfl) (fun _ _ _ h => h) (Or.inl ⟨by rfl, ?yq8⟩) (by assumption) ?rq8
          case yq8 => (intro w hSw; (try dsimp only at hSw); go_simp <;> with_reducible rfl)
          simp only [Act.put, List.setIfInBounds_toArray, List.set_cons_zero, List.set_cons_succ]
          refine wpAnyH_take (i := 9) (oi := { dst := some 33, op := Op.extract (Operand.tmp 24) 1, type := 31, pos := "law.go:79", after := #[{ on := 7, ground := Ground.data }, { on := 12, ground := Ground.gcOnly Departure.lateStores }], guard := none }) (v := ?vq9) rfl (by as_aux_lemma => kernel_rfl) (by as_aux_lemma => kernel_rfl) (by as_aux_lemma => kernel_rfl) (fun _ _ _ h => h) (Or.inl ⟨by rfl, ?yq9⟩) (by assumption) ?rq9
          case yq9 => (intro w hSw; (try dsimp only at hSw); go_simp <;> with_reducible rfl)
          simp only [Act.put, List.setIfInBounds_toArray, List.set_cons_zero, List.set_cons_succ]
          refine wpAnyH_take (i := 10) (oi := { dst := some 34, op := Op.extract (Operand.tmp 24) 2, type := 4, pos := "law.go:79", after := #[{ on := 7, ground := Ground.data }, { on := 13, ground := Ground.gcOnly Departure.lateStores }], guard := none }) (v := ?vq10) rfl (by as_aux_lemma => kernel_rfl) (by as_aux_lemma => kernel_rfl) (by as_aux_lemma => kernel_rfl) (fun _ _ _ h => h) (Or.inl ⟨by rfl, ?yq10⟩) (by assumption) ?rq10
          case yq10 => (intro w hSw; (try dsimp only at hSw); go_simp <;> with_reducible rfl)
          simp only [Act.put, List.setIfInBounds_toArray, List.set_cons_zero, List.set_cons_succ]
          refine wpAnyH_ready (rs := [11]) (by as_aux_lemma => kernel_rfl) (by simp) ?_
          refine AllReadyH.cons (o := { dst := some 9, op := Op.alloc 31, type := 0, pos := "law.go:79", after := #[], guard := none }) rfl (fun K hK => ?_) (by exact AllReadyH.nil)
          rw [if_pos (by rfl)]
          go_simp
          obtain ⟨y11, hy11⟩ : ∃ y, (z6).alloc (.cells #[.slice none 0 0] 31) = y := ⟨_, rfl⟩
          have hby11 : Blk y11 (z6).heap.size 31 #[.slice none 0 0] := by rw [← hy11]; exact Blk.new _ _ _
          have hzy11 : Below (z6).heap.size (z6) y11 := by rw [← hy11]; exact balloc (Below.refl _ _) _
          have hSy11 : PlS W1.heap.size gS W1 r y11 := ⟨hSz6.1.trans (hzy11.mono hSz6.1.size), hSz6.2.keep hzy11⟩
          have hWy11 := hWz6.keep hzy11
          have hny11 : gS ≠ (z6).heap.size := by have := hSz6.2.lt; omega
          have hly11 := hSz6.1.size
          obtain ⟨gy11, hgy11⟩ : ∃ g, (z6).heap.size = g := ⟨_, rfl⟩
          rw [hgy11] at hby11 hny11 hly11
          rw [hy11]
          rw [hgy11]
          refine hK.out _ _ (by (try dsimp only); exact hSy11) (fun hHeld => ?_)
          clear hK K
          simp only [List.setIfInBounds_toArray, List.set_cons_zero, List.set_cons_succ]
          refine wpAnyH_take (i := 12) (oi := { dst := some 8, op := Op.assign (Operand.tmp 32), type := 27, pos := "law.go:79", after := #[{ on := 8, ground := Ground.data }, { on := 6, ground := Ground.chain }, { on := 0, ground := Ground.phase }, { on := 1, ground := Ground.phase }, { on := 2, ground := Ground.phase }, { on := 3, ground := Ground.phase }, { on := 4, ground := Ground.phase }, { on := 5, ground := Ground.phase }, { on := 6, ground := Ground.phase }, { on := 7, ground := Ground.phase }, { on := 8, ground := Ground.phase }, { on := 9, ground := Ground.textOnly Departure.lateStores }, { on := 10, ground := Ground.textOnly Departure.lateStores }, { on := 11, ground := Ground.phase }], guard := none }) (v := ?vq12) rfl (by as_aux_lemma => kernel_rfl) (by as_aux_lemma => kernel_rfl) (by as_aux_lemma => kernel_rfl) (fun _ _ _ h => h) (Or.inl ⟨by rfl, ?yq12⟩) (by assumption) ?rq12
          case yq12 => (intro w hSw; (try dsimp only at hSw); go_simp <;> with_reducible rfl)
          simp only [Act.put, List.setIfInBounds_toArray, List.set_cons_zero, List.set_cons_succ]
          refine wpAnyH_ready (rs := [13]) (by as_aux_lemma => kernel_rfl) (by simp) ?_
          refine AllReadyH.cons (o := { dst := none, op := Op.store 31 (Operand.tmp 9) (Operand.tmp 33), type := 0, pos := "law.go:79", after := #[{ on := 11, ground := Ground.data }, { on := 9, ground := Ground.data }, { on := 12, ground := Ground.chain }, { on := 0, ground := Ground.phase }, { on := 1, ground := Ground.phase }, { on := 2, ground := Ground.phase }, { on := 3, ground := Ground.phase }, { on := 4, ground := Ground.phase }, { on := 5, ground := Ground.phase }, { on := 6, ground := Ground.phase }, { on := 7, ground := Ground.phase }, { on := 8, ground := Ground.phase }, { on := 9, ground := Ground.phase }, { on := 10, ground := Ground.textOnly Departure.lateStores }, { on := 11, ground := Ground.phase }, { on := 12, ground := Ground.phase }], guard := none }) rfl (fun K hK => ?_) (by exact AllReadyH.nil)
          rw [if_pos (by rfl)]
          have fx13 := frozen_of_row y11 _ 0 _ _ hby11
          have cx13 : y11.cell? ⟨gy11, 0, none⟩ = some (.slice none 0 0) := cell_of_row y11 _ 0 _ _ _ hby11
          go_simp
          have hbx13 := heap_setCell_same y11 gy11 0 _ _ (.slice xz6 mz6 cz6) hby11
          have hSx13 : PlS W1.heap.size gS W1 r (y11.setCell ⟨gy11, 0, none⟩ (.slice xz6 mz6 cz6)) := ⟨hSy11.1.setCell (p := ⟨gy11, 0, none⟩) hly11 _, hSy11.2.kept (grown_set' (grown_refl _ _) 0 _) (fun e => hny11 (Option.some.inj e))⟩
          have hWx13 := hWy11.set (u := (.slice xz6 mz6 cz6)) hby11
          obtain ⟨x13, hx13⟩ : ∃ Z, y11.setCell ⟨gy11, 0, none⟩ (.slice xz6 mz6 cz6) = Z := ⟨_, rfl⟩
          rw [hx13] at hbx13 hSx13 hWx13 ⊢
          clear hx13
          refine hK.out _ _ (by (try dsimp only); exact hSx13) (fun hHeld => ?_)
          clear hK K
          simp only [List.setIfInBounds_toArray, List.set_cons_zero, List.set_cons_succ]
          refine wpAnyH_take (i := 14) (oi := { dst := some 10, op := Op.assign (Operand.tmp 34), type := 4, pos := "law.go:79", after := #[{ on := 10, ground := Ground.data }, { on := 13, ground := Ground.chain }, { on := 0, ground := Ground.phase }, { on := 1, ground := Ground.phase }, { on := 2, ground := Ground.phase }, { on := 3, ground := Ground.phase }, { on := 4, ground := Ground.phase }, { on := 5, ground := Ground.phase }, { on := 6, ground := Ground.phase }, { on := 7, ground := Ground.phase }, { on := 8, ground := Ground.phase }, { on := 9, ground := Ground.phase }, { on := 10, ground := Ground.phase }, { on := 11, ground := Ground.phase }, { on := 12, ground := Ground.phase }, { on := 13, ground := Ground.phase }], guard := none }) (v := ?vq14) rfl (by as_aux_lemma => kernel_rfl) (by as_aux_lemma => kernel_rfl) (by as_aux_lemma => kernel_rfl) (fun _ _ _ h => h) (Or.inl ⟨by rfl, ?yq14⟩) (by assumption) ?rq14
          case yq14 => (intro w hSw; (try dsimp only at hSw); go_simp <;> with_reducible rfl)
          simp only [Act.put, List.setIfInBounds_toArray, List.set_cons_zero, List.set_cons_succ]
          refine wpAnyH_done (by as_aux_lemma => kernel_rfl) ?_ _
          clear hHeld
          simp only [noPanic]
          go_wp2_with fail
          go_meet
          exact ⟨(.slice xz6 mz6 cz6), acL L z0 y0 u0, gy11, rfl, rfl, hWx13, by have := ac_len L z0 y0 u0; have := HL.out.1; omega, hSx13.2, hbx13, hny11, hly11, hSx13.1⟩
        refine AllReadyH.cons (o := { dst := some 9, op := Op.alloc 31, type := 0, pos := "law.go:79", after := #[], guard := none }) rfl (fun K hK => ?_) (by exact AllReadyH.nil)
        rw [if_pos (by rfl)]
        go_simp
        obtain ⟨y15, hy15⟩ : ∃ y, (wd).alloc (.cells #[.slice none 0 0] 31) = y := ⟨_, rfl⟩
        have hby15 : Blk y15 (wd).heap.size 31 #[.slice none 0 0] := by rw [← hy15]; exact Blk.new _ _ _
        have hzy15 : Below (wd).heap.size (wd) y15 := by rw [← hy15]; exact balloc (Below.refl _ _) _
        have hSy15 : PlS W1.heap.size gS W1 r y15 := ⟨hS0.1.trans (hzy15.mono hS0.1.size), hS0.2.keep hzy15⟩
        have hWy15 := hW0.keep hzy15
        have hny15 : gS ≠ (wd).heap.size := by have := hS0.2.lt; omega
        have hly15 := hS0.1.size
        obtain ⟨gy15, hgy15⟩ : ∃ g, (wd).heap.size = g := ⟨_, rfl⟩
        rw [hgy15] at hby15 hny15 hly15
        rw [hy15]
        rw [hgy15]
        refine hK.out _ _ (by (try dsimp only); exact hSy15) (fun hHeld => ?_)
        clear hK K
        simp only [List.setIfInBounds_toArray, List.set_cons_zero, List.set_cons_succ]
        refine wpAnyH_ready (rs := [6]) (by as_aux_lemma => kernel_rfl) (by simp) ?_
        refine AllReadyH.cons (o := { dst := some 31, op := Op.call { callee := Callee.value (Operand.func 8), args := #[Operand.tmp 25, Operand.tmp 26, Operand.tmp 30], argTypes := #[27, 31, 38] }, type := 32, pos := "law.go:79", after := #[{ on := 0, ground := Ground.data }, { on := 1, ground := Ground.data }, { on := 5, ground := Ground.data }], guard := none }) rfl (fun K hK => ?_) (by exact AllReadyH.nil)
        rw [if_pos (by rfl)]
        go_simp
        (go_at_call 8; refine (HACT.out _ hWy15 hSy15.1.size).mono ?_; rintro e z16 ⟨pz16, rz16, rfl, hWz16, hBz16, hkz16⟩; obtain ⟨xz16, mz16, cz16, rfl⟩ : ∃ x m c, rz16 = .slice x m c := (by obtain ⟨x, c, h⟩ := hWz16.rows.is; exact ⟨x, _, c, h⟩))
        have hSz16 : PlS W1.heap.size gS W1 r z16 := ⟨hSy15.1.trans hBz16, hkz16 _ _ hSy15.2⟩
        have hbz16 := hkz16 _ _ hby15
        refine hK.out _ _ (by (try dsimp only); exact hSz16) (fun hHeld => ?_)
        clear hK K
        simp only [List.setIfInBounds_toArray, List.set_cons_zero, List.set_cons_succ]
        refine wpAnyH_take (i := 7) (oi := { dst := some 24, op := Op.move (Operand.tmp 31), type := 32, pos := "law.go:79", after := #[{ on := 6, ground := Ground.data }], guard := none }) (v := ?vq17) rfl (by as_aux_lemma => kernel_rfl) (by as_aux_lemma => kernel_rfl) (by as_aux_lemma => kernel_rfl) (fun _ _ _ h => h) (Or.inl ⟨by rfl, ?yq17⟩) (by assumption) ?rq17
        case yq17 => (intro w hSw; (try dsimp only at hSw); go_simp <;> with_reducible rfl)
        simp only [Act.put, List.setIfInBounds_toArray, List.set_cons_zero, List.set_cons_succ]
        refine wpAnyH_take (i := 8) (oi := { dst := some 32, op := Op.extract (Operand.tmp 24) 0, type := 27, pos := "law.go:79", after := #[{ on := 7, ground := Ground.data }], guard := none }) (v := ?vq18) rfl (by as_aux_lemma => kernel_rfl) (by as_aux_lemma => kernel_rfl) (by as_aux_lemma => kernel_rfl) (fun _ _ _ h => h) (Or.inl ⟨by rfl, ?yq18⟩) (by assumption) ?rq18
        case yq18 => (intro w hSw; (try dsimp only at hSw); go_simp <;> with_reducible rfl)
        simp only [Act.put, List.setIfInBounds_toArray, List.set_cons_zero, List.set_cons_succ]
        refine wpAnyH_take (i := 9) (oi := { dst := some 33, op := Op.extract (Operand.tmp 24) 1, type := 31, pos := "law.go:79", after := #[{ on := 7, ground := Ground.data }, { on := 12, ground := Ground.gcOnly Departure.lateStores }], guard := none }) (v := ?vq19) rfl (by as_aux_lemma => kernel_rfl) (by as_aux_lemma => kernel_rfl) (by as_aux_lemma => kernel_rfl) (fun _ _ _ h => h) (Or.inl ⟨by rfl, ?yq19⟩) (by assumption) ?rq19
        case yq19 => (intro w hSw; (try dsimp only at hSw); go_simp <;> with_reducible rfl)
        simp only [Act.put, List.setIfInBounds_toArray, List.set_cons_zero, List.set_cons_succ]
        refine wpAnyH_take (i := 10) (oi := { dst := some 34, op := Op.extract (Operand.tmp 24) 2, type := 4, pos := "law.go:79", after := #[{ on := 7, ground := Ground.data }, { on := 13, ground := Ground.gcOnly Departure.lateStores }], guard := none }) (v := ?vq20) rfl (by as_aux_lemma => kernel_rfl) (by as_aux_lemma => kernel_rfl) (by as_aux_lemma => kernel_rfl) (fun _ _ _ h => h) (Or.inl ⟨by rfl, ?yq20⟩) (by assumption) ?rq20
        case yq20 => (intro w hSw; (try dsimp only at hSw); go_simp <;> with_reducible rfl)
        simp only [Act.put, List.setIfInBounds_toArray, List.set_cons_zero, List.set_cons_succ]
        refine wpAnyH_take (i := 12) (oi := { dst := some 8, op := Op.assign (Operand.tmp 32), type := 27, pos := "law.go:79", after := #[{ on := 8, ground := Ground.data }, { on := 6, ground := Ground.chain }, { on := 0, ground := Ground.phase }, { on := 1, ground := Ground.phase }, { on := 2, ground := Ground.phase }, { on := 3, ground := Ground.phase }, { on := 4, ground := Ground.phase }, { on := 5, ground := Ground.phase }, { on := 6, ground := Ground.phase }, { on := 7, ground := Ground.phase }, { on := 8, ground := Ground.phase }, { on := 9, ground := Ground.textOnly Departure.lateStores }, { on := 10, ground := Ground.textOnly Departure.lateStores }, { on := 11, ground := Ground.phase }], guard := none }) (v := ?vq21) rfl (by as_aux_lemma => kernel_rfl) (by as_aux_lemma => kernel_rfl) (by as_aux_lemma => kernel_rfl) (fun _ _ _ h => h) (Or.inl ⟨by rfl, ?yq21⟩) (by assumption) ?rq21
        case yq21 => (intro w hSw; (try dsimp only at hSw); go_simp <;> with_reducible rfl)
        simp only [Act.put, List.setIfInBounds_toArray, List.set_cons_zero, List.set_cons_succ]
        refine wpAnyH_ready (rs := [13]) (by as_aux_lemma => kernel_rfl) (by simp) ?_
        refine AllReadyH.cons (o := { dst := none, op := Op.store 31 (Operand.tmp 9) (Operand.tmp 33), type := 0, pos := "law.go:79", after := #[{ on := 11, ground := Ground.data }, { on := 9, ground := Ground.data }, { on := 12, ground := Ground.chain }, { on := 0, ground := Ground.phase }, { on := 1, ground := Ground.phase }, { on := 2, ground := Ground.phase }, { on := 3, ground := Ground.phase }, { on := 4, ground := Ground.phase }, { on := 5, ground := Ground.phase }, { on := 6, ground := Ground.phase }, { on := 7, ground := Ground.phase }, { on := 8, ground := Ground.phase }, { on := 9, ground := Ground.phase }, { on := 10, ground := Ground.textOnly Departure.lateStores }, { on := 11, ground := Ground.phase }, { on := 12, ground := Ground.phase }], guard := none }) rfl (fun K hK => ?_) (by exact AllReadyH.nil)
        rw [if_pos (by rfl)]
        have fx22 := frozen_of_row z16 _ 0 _ _ hbz16
        have cx22 : z16.cell? ⟨gy15, 0, none⟩ = some (.slice none 0 0) := cell_of_row z16 _ 0 _ _ _ hbz16
        go_simp
        have hbx22 := heap_setCell_same z16 gy15 0 _ _ (.slice xz16 mz16 cz16) hbz16
        have hSx22 : PlS W1.heap.size gS W1 r (z16.setCell ⟨gy15, 0, none⟩ (.slice xz16 mz16 cz16)) := ⟨hSz16.1.setCell (p := ⟨gy15, 0, none⟩) hly15 _, hSz16.2.kept (grown_set' (grown_refl _ _) 0 _) (fun e => hny15 (Option.some.inj e))⟩
        have hWx22 := hWz16.set (u := (.slice xz16 mz16 cz16)) hbz16
        obtain ⟨x22, hx22⟩ : ∃ Z, z16.setCell ⟨gy15, 0, none⟩ (.slice xz16 mz16 cz16) = Z := ⟨_, rfl⟩
        rw [hx22] at hbx22 hSx22 hWx22 ⊢
        clear hx22
        refine hK.out _ _ (by (try dsimp only); exact hSx22) (fun hHeld => ?_)
        clear hK K
        simp only [List.setIfInBounds_toArray, List.set_cons_zero, List.set_cons_succ]
        refine wpAnyH_take (i := 14) (oi := { dst := some 10, op := Op.assign (Operand.tmp 34), type := 4, pos := "law.go:79", after := #[{ on := 10, ground := Ground.data }, { on := 13, ground := Ground.chain }, { on := 0, ground := Ground.phase }, { on := 1, ground := Ground.phase }, { on := 2, ground := Ground.phase }, { on := 3, ground := Ground.phase }, { on := 4, ground := Ground.phase }, { on := 5, ground := Ground.phase }, { on := 6, ground := Ground.phase }, { on := 7, ground := Ground.phase }, { on := 8, ground := Ground.phase }, { on := 9, ground := Ground.phase }, { on := 10, ground := Ground.phase }, { on := 11, ground := Ground.phase }, { on := 12, ground := Ground.phase }, { on := 13, ground := Ground.phase }], guard := none }) (v := ?vq23) rfl (by as_aux_lemma => kernel_rfl) (by as_aux_lemma => kernel_rfl) (by as_aux_lemma => kernel_rfl) (fun _ _ _ h => h) (Or.inl ⟨by rfl, ?yq23⟩) (by assumption) ?rq23
        case yq23 => (intro w hSw; (try dsimp only at hSw); go_simp <;> with_reducible rfl)
        simp only [Act.put, List.setIfInBounds_toArray, List.set_cons_zero, List.set_cons_succ]
        refine wpAnyH_done (by as_aux_lemma => kernel_rfl) ?_ _
        clear hHeld
        simp only [noPanic]
        go_wp2_with fail
        go_meet
        exact ⟨(.slice xz16 mz16 cz16), acL L z0 y0 u0, gy15, rfl, rfl, hWx22, by have := ac_len L z0 y0 u0; have := HL.out.1; omega, hSx22.2, hbx22, hny15, hly15, hSx22.1⟩
      case rest =>
        obtain ⟨r2, L2, gT, rfl, rfl, hW, hL2, hbS, hbT, hne, hgT, hbl⟩ := hcut
        obtain ⟨x2, m2, q2, rfl⟩ : ∃ x m c, r2 = .slice x m c := by obtain ⟨x, c, h⟩ := hW.rows.is; exact ⟨x, _, c, h⟩
        have h00 : HelN 1 31 wc gS wc := ⟨grown_refl wc _, _, rfl, hbS⟩
        have h0 : HelN 1 31 wc gS wc.drew := HelN.drew ⟨grown_refl wc _, _, rfl, hbS⟩
        have f2 := fun w' (hw : HelN 1 31 wc gS w') => HelN.frozen hw 0
        have cf := fun w' (hw : HelN 1 31 wc gS w') => HelN.cell hw 0 (by omega)
        have cT : ∀ w', HelN 1 31 wc gS w' → w'.cell? ⟨gT, 0, none⟩ = some (.slice x2 m2 q2) := fun w' (hw : HelN 1 31 wc gS w') => cell_of_row _ _ 0 _ _ _ (HelN.blk hw hbT (Ne.symm hne))
        have HC := Lib.hid (And.intro hW (And.intro hL2 (And.intro hbS (And.intro hne hbl))))
        clear hW hL2 hbS hbT hne hgT hbl HACT HL hS0 hW0 cS cl0 cl1 cl2 cl3 cl4 cl5 cl6 cl7 cl8 cl9 hdl hdl2
        go_upto_region 9 with fail
        go_region_held3 (fun w' => HelN 1 31 wc gS w')
          (first | with_reducible assumption | with_reducible exact HelN.set (by assumption) _ _ | with_reducible exact HelN.drew (HelN.set (by assumption) _ _) | with_reducible exact HelN.drew (by assumption))
          (fail)
        all_goals
          obtain ⟨hW, hL2, hbS, hne, hbl⟩ := HC.out
          obtain ⟨Y, hY⟩ : ∃ Y, (wc.setCell ⟨gS, 0, none⟩ (.slice x2 m2 q2)).drew = Y := ⟨_, rfl⟩
          have hWY : StW W1.heap.size Y u8 (.slice x2 m2 q2) L2 := by rw [← hY]; exact (hW.set hbS).keep (below_drew' (Below.refl _ _))
          have hbY : Blk Y gS 31 #[.slice x2 m2 q2] := by rw [← hY]; exact heap_setCell_same wc gS 0 _ _ _ hbS
          have hblY : Below W1.heap.size W1 Y := by rw [← hY]; exact below_drew' (hbl.setCell (p := ⟨gS, 0, none⟩) HGS.out _)
          have hnK : Blk Y w.heap.size 25 (Wc n) := HA.out.2.2.2.1.keep hblY
          have hn := HA.out.2.2.1
          have hl2 : L2.length ≤ 1000 := by have := HA.out; omega
          rw [hY]
          have e0 : ∀ Z, Below Y.heap.size Y Z → Z.cell? ⟨w.heap.size, 0, none⟩ = some (.int .u64 (lb n 0)) := fun Z h => cell_of_row Z _ 0 _ _ _ (hnK.keep h)
          have e1 : ∀ Z, Below Y.heap.size Y Z → Z.cell? ⟨w.heap.size, 1, none⟩ = some (.int .u64 (lb n 1)) := fun Z h => cell_of_row Z _ 1 _ _ _ (hnK.keep h)
          have e2 : ∀ Z, Below Y.heap.size Y Z → Z.cell? ⟨w.heap.size, 2, none⟩ = some (.int .u64 (lb n 2)) := fun Z h => cell_of_row Z _ 2 _ _ _ (hnK.keep h)
          have e3 : ∀ Z, Below Y.heap.size Y Z → Z.cell? ⟨w.heap.size, 3, none⟩ = some (.int .u64 (lb n 3)) := fun Z h => cell_of_row Z _ 3 _ _ _ (hnK.keep h)
          have eS : ∀ Z, Below Y.heap.size Y Z → Z.cell? ⟨gS, 0, none⟩ = some (.slice x2 m2 q2) := fun Z h => cell_of_row Z _ 0 _ _ _ (hbY.keep h)
          have HIS := Lib.hid (fun Z (hZ : Below Y.heap.size Y Z) kk => is_any W1.heap.size u8 (.slice x2 m2 q2) L2 kk Z (hWY.keep hZ) hl2)
          have HG1 := Lib.hid (fun Z (hZ : Below Y.heap.size Y Z) => (hWY.keep hZ).get n hn)
          have HG2 := Lib.hid (fun Z (hZ : Below Y.heap.size Y Z) => rget_any W1.heap.size (.slice x2 m2 q2) L2 n hn Z (hWY.keep hZ).rows (by omega))
          have HW1' := Lib.hid (fun Z (hZ : Below Y.heap.size Y Z) => (hWY.keep hZ).was n hn)
          have HW2' := Lib.hid (fun Z (hZ : Below Y.heap.size Y Z) => rwas_any W1.heap.size (.slice x2 m2 q2) L2 n hn Z (hWY.keep hZ).rows (by omega))
          have nv1 := fun X => neqVal_R (rowN L2 n).2.1 (rowN L2 n).2.1 (hWY.okN n).1 (hWY.okN n).1 X
          have nv2 := fun X => neqVal_R (rowN L2 n).2.2 (rowN L2 n).2.2 (hWY.okN n).2 (hWY.okN n).2 X
          rw [show (!(decide ((rowN L2 n).2.1 = (rowN L2 n).2.1))) = false by simp] at nv1
          rw [show (!(decide ((rowN L2 n).2.2 = (rowN L2 n).2.2))) = false by simp] at nv2
          generalize (rowN L2 n).2.1 = o1 at *
          generalize (rowN L2 n).2.2 = o2 at *
          have h0 : Below Y.heap.size Y Y.drew := below_drew' (Below.refl _ _)
          have HF := Lib.hid (And.intro hWY (And.intro hbY (And.intro hblY hL2)))
          clear hW hL2 hbS hne hbl hY hWY hbY hblY hnK hn hl2 h00 f2 cf cT HC
          go_upto_region 10 with fail
          go_region_held3 (fun w' => Below Y.heap.size Y w') (first | with_reducible assumption) (first
            | (go_at_call 9; refine (HIS.out _ (by with_reducible assumption) _).mono ?_; rintro e y1 ⟨rfl, hz⟩; have hH1 : Below Y.heap.size Y y1 := rstep hz (by with_reducible assumption); clear hz)
            | (go_at_call 10; refine (HG1.out _ (by with_reducible assumption)).mono ?_; rintro e y2 ⟨rfl, hz⟩; have hH2 : Below Y.heap.size Y y2 := rstep hz (by with_reducible assumption); clear hz)
            | (go_at_call 11; refine (HG2.out _ (by with_reducible assumption)).mono ?_; rintro e y3 ⟨rfl, hz⟩; have hH3 : Below Y.heap.size Y y3 := rstep hz (by with_reducible assumption); clear hz)
            | (go_at_call 12; refine (HW1'.out _ (by with_reducible assumption)).mono ?_; rintro e y4 ⟨rfl, hz⟩; have hH4 : Below Y.heap.size Y y4 := rstep hz (by with_reducible assumption); clear hz)
            | (go_at_call 13; refine (HW2'.out _ (by with_reducible assumption)).mono ?_; rintro e y5 ⟨rfl, hz⟩; have hH5 : Below Y.heap.size Y y5 := rstep hz (by with_reducible assumption); clear hz)
            | fail)
          all_goals
            have g1 : IntKind.i64.wrap ((k : Int) + 1) = ((k + 1 : Nat) : Int) := IntWalk.i64_in _ (by have := HA.out; omega)
            clear e0 e1 e2 e3 eS HIS HG1 HG2 HW1' HW2' nv1 nv2 h0 hH1 hH2 hH3 hH4
            go_wp2_with fail
            go_roundw
            case rel => exact ⟨k + 1, by omega, rfl, _, L2, HF.out.1.keep hH5, HF.out.2.1.keep hH5, HF.out.2.2.2, HF.out.2.2.1.trans (hH5.mono HF.out.2.2.1.size)⟩
            case measure => simp [intOf]; omega
    · have hkN : k = N := by omega
      have hge : ¬ (k : Int) < (N : Int) := by omega
      have HE := Lib.hid (And.intro hst (And.intro hbS (And.intro hLk (And.intro hbl hk))))
      clear hst hbS hLk hbl hlt hk hkN
      rcases Nat.mod_two_eq_zero_or_one N with hpar | hpar
      · have hmI : ((N : Int) % 2) = 0 := by omega
        have hmT : (Int.tmod (N : Int) 2) = 0 := by rw [Int.tmod_eq_emod_of_nonneg (by omega)]; omega
        clear hpar
        go_upto_region 15 with fail
        have hNS : NoS wr (.pointer none) := .inl rfl
        have hbZ : Below wr.heap.size wr wr := Below.refl _ _
        have HZ0 := Lib.hid (And.intro hNS hbZ)
        clear hNS hbZ
        go_upto_region 16 with (first
          | (go_at_call 14; refine (sall_none _ _ HZ0.out.1).mono ?_; rintro e z3 ⟨gk, gm, rfl, hA, _, _, hb⟩; have H3 := Lib.hid (And.intro hA hb); clear hA hb)
          | fail)
        have hnil : ∀ (p q : Value) w, (binOp .eql 46 (.func (.func 32) #[] #[p, q]) .nilFunc).run Try.prog w = .ok (.bool false) w := fun _ _ _ => by kernel_rfl
        go_upto_region 18 with fail
        go_wp2_with fail
        refine (wpIn_wide (n := 20)).1 ?_
        refine wpIn_rangeV (n := 20) (by omega) (gf := 32) (lb := #[.pointer (some ⟨gk, 0, none⟩), .pointer (some ⟨gm, 0, none⟩)]) rfl enters_all
          (allN_seq (20 - 1) gk gm z3.heap.size z3 H3.out.1) (Below.refl _ _) (Nat.le_refl _) (fun k h => h.elim) (fun _ => rfl)
          (fun _ X => Below z3.heap.size z3 X) (fun _ _ _ => False)
          (fun pre X Y row h hw hr => h.grown hw h.size (fun x e => by rcases hr x e with h | h | h; exact h.elim; omega; omega))
          (fun _ _ _ _ _ h _ _ => h.elim) (fun pre X h => trivial) (Below.refl _ _)
          (fun _ _ _ => True) (fun _ _ _ _ _ _ _ _ _ => trivial)
          ?assign1 ?body1 ?done1 ?stop1
        case assign1 => intro _ _ _ _ _ h; exact h.elim
        case body1 => intro _ _ _ _ _ _ h; exact h.elim
        case stop1 => intro _ _ _ _ _ _ h; exact h.elim
        case done1 =>
          rintro Dd xs X1 hD rfl hI hK
          obtain ⟨p11, hp11⟩ : ∃ p, Value.pointer none = p := ⟨_, rfl⟩
          have hbX : Below wr.heap.size wr X1 := bstep (bstep HZ0.out.2 H3.out.2) hI
          have hNX : NoS X1 p11 := by rw [← hp11]; exact (HZ0.out.1.keep H3.out.2).keep hI
          have hWX := HE.out.1.keep hbX
          have hblX : Below W1.heap.size W1 X1 := HE.out.2.2.2.1.trans (hbX.mono HE.out.2.2.2.1.size)
          have hnK : Blk X1 w.heap.size 25 (Wc n) := HA.out.2.2.2.1.keep hblX
          have hnV : Blk X1 (w.heap.size + 1) 4 #[.bool false] := HA.out.2.2.2.2.1.keep hblX
          have hn := HA.out.2.2.1
          have e0 : ∀ Z, Below X1.heap.size X1 Z → Z.cell? ⟨w.heap.size, 0, none⟩ = some (.int .u64 (lb n 0)) := fun Z h => cell_of_row Z _ 0 _ _ _ (hnK.keep h)
          have e1 : ∀ Z, Below X1.heap.size X1 Z → Z.cell? ⟨w.heap.size, 1, none⟩ = some (.int .u64 (lb n 1)) := fun Z h => cell_of_row Z _ 1 _ _ _ (hnK.keep h)
          have e2 : ∀ Z, Below X1.heap.size X1 Z → Z.cell? ⟨w.heap.size, 2, none⟩ = some (.int .u64 (lb n 2)) := fun Z h => cell_of_row Z _ 2 _ _ _ (hnK.keep h)
          have e3 : ∀ Z, Below X1.heap.size X1 Z → Z.cell? ⟨w.heap.size, 3, none⟩ = some (.int .u64 (lb n 3)) := fun Z h => cell_of_row Z _ 3 _ _ _ (hnK.keep h)
          have h0 : Below X1.heap.size X1 X1 := Below.refl _ _
          have HPU := Lib.hid (fun Z (hZ : Below X1.heap.size X1 Z) => (by have h := put_none p11 n (0, 0) Z (hNX.keep hZ); rw [vP0] at h; exact h : Calls Try.prog 16 #[p11, W n, .agg #[.int .u64 0, .int .u64 0, .int .u64 0, .int .u64 0, .int .u64 0]] Z fun e w' => e = .returned (.int .i64 1) ∧ Below Z.heap.size Z w'))
          have HSE := Lib.hid (fun Z (hZ : Below X1.heap.size X1 Z) => settle_none p11 Z (hNX.keep hZ))
          have HGE := Lib.hid (fun Z (hZ : Below X1.heap.size X1 Z) => (by have h := get_none p11 n Z (hNX.keep hZ); rw [vP0] at h; exact h : Calls Try.prog 10 #[p11, W n] Z fun e w' => e = .returned (.agg #[.int .u64 0, .int .u64 0, .int .u64 0, .int .u64 0, .int .u64 0]) ∧ Below Z.heap.size Z w'))
          have HWA := Lib.hid (fun Z (hZ : Below X1.heap.size X1 Z) => (by have h := was_none p11 n Z (hNX.keep hZ); rw [vP0] at h; exact h : Calls Try.prog 12 #[p11, W n] Z fun e w' => e = .returned (.agg #[.int .u64 0, .int .u64 0, .int .u64 0, .int .u64 0, .int .u64 0]) ∧ Below Z.heap.size Z w'))
          have HLN := Lib.hid (fun Z (hZ : Below X1.heap.size X1 Z) => len_none p11 Z (hNX.keep hZ))
          have HCO := Lib.hid (fun Z (hZ : Below X1.heap.size X1 Z) => copy_none p11 Z (hNX.keep hZ))
          have HAL := Lib.hid (fun Z (hZ : Below X1.heap.size X1 Z) => (by exact alike_none2 p11 (.pointer none) 0 Z (hNX.keep hZ) (.inl rfl) : Calls Try.prog 20 #[p11, .pointer none, .int .u64 0] Z fun e w' => e = .returned (.bool true) ∧ Z = w'))
          obtain ⟨g5, bv5, bw5, many5, fv5, fw5, rfl, hs5⟩ := hWX.ptr
          have HAM := Lib.hid (fun Z (hZ : Below X1.heap.size X1 Z) => (by exact alike_none1 (.pointer (some ⟨g5, 0, none⟩)) p11 0 Z g5 _ _ _ rfl (hs5.1.keep hZ) (hNX.keep hZ) : Calls Try.prog 20 #[.pointer (some ⟨g5, 0, none⟩), p11, .int .u64 0] Z fun e w' => e = .returned (.bool false) ∧ Z = w'))
          have hzz : ∀ X, (binOp .eql 36 (.agg #[.int .u64 0, .int .u64 0, .int .u64 0, .int .u64 0, .int .u64 0]) (.agg #[.int .u64 0, .int .u64 0, .int .u64 0, .int .u64 0, .int .u64 0])).run Try.prog X = .ok (.bool true) X := fun X => by have h := eqVal_any (0, 0) (0, 0) okP0 okP0 X; rw [vP0] at h; exact h
          have hDn : w.heap.size + 2 ≤ Dd := by have h1 := HA.out.2.2.2.2.2.2; have h2 := HE.out.2.2.2.1.size; have h3 := HZ0.out.2.size; have h4 := H3.out.2.size; omega
          have HF := Lib.hid (And.intro hnV (And.intro hblX (And.intro hK hDn)))
          have HP := Lib.hid hp11
          rw [hp11]
          clear hbX hNX hWX hblX hnK hnV hn hI hK hD hDn HZ0 H3 HE hs5 hnil hp11
          go_wp2_with (first
            | (go_at_call 16; refine (HPU.out _ (by with_reducible assumption)).mono ?_; rintro e y1 ⟨rfl, hz⟩; have hH1 : Below X1.heap.size X1 y1 := rstep hz (by with_reducible assumption); clear hz)
            | (go_at_call 15; refine (snum_any _ _).mono ?_; rintro e w6 ⟨rfl, rfl⟩)
            | (go_at_call 17; refine (HSE.out _ (by with_reducible assumption)).mono ?_; rintro e y2 ⟨rfl, rfl⟩)
            | (go_at_call 10; refine (HGE.out _ (by with_reducible assumption)).mono ?_; rintro e y3 ⟨rfl, hz⟩; have hH3 : Below X1.heap.size X1 y3 := rstep hz (by with_reducible assumption); clear hz)
            | (go_at_call 12; refine (HWA.out _ (by with_reducible assumption)).mono ?_; rintro e y4 ⟨rfl, hz⟩; have hH4 : Below X1.heap.size X1 y4 := rstep hz (by with_reducible assumption); clear hz)
            | (go_at_call 18; refine (HLN.out _ (by with_reducible assumption)).mono ?_; rintro e y5 ⟨rfl, rfl⟩)
            | (go_at_call 19; refine (HCO.out _ (by with_reducible assumption)).mono ?_; rintro e y6 ⟨rfl, rfl⟩)
            | (go_at_call 20; with_reducible refine (HAL.out y4 hH4).mono ?_; rintro e y7 ⟨rfl, rfl⟩)
            | (go_at_call 20; with_reducible refine (HAM.out y4 hH4).mono ?_; rintro e y8 ⟨rfl, rfl⟩)
            | (go_at_call 6; refine (sworks_any _).mono ?_; rintro e wz ⟨rfl, hz⟩; have hZ : Below X1.heap.size X1 wz := rstep hz (by with_reducible assumption); have hR := HF.out.1.keep hZ; have f0 := frozen_of_row _ _ 0 _ _ hR; have d0 : wz.cell? ⟨w.heap.size + 1, 0, none⟩ = some (.bool false) := cell_of_row _ _ 0 _ _ _ hR; have HZ := Lib.hid (And.intro hR hZ); clear hz hR hZ)
            | fail)
          obtain ⟨_, hblX, hK, hDn⟩ := HF.out
          obtain ⟨hR, hZ⟩ := HZ.out
          have hdY : (wz.setCell ⟨w.heap.size + 1, 0, none⟩ (.bool true)).heap[Dd]? = some (.deferred (some [])) := (Below.heap_setCell wz ⟨w.heap.size + 1, 0, none⟩ _ Dd (by simp; omega)).trans ((hZ.block Dd (Array.getElem?_eq_some_iff.1 hK).1).trans hK)
          have bY : Blk (wz.setCell ⟨w.heap.size + 1, 0, none⟩ (.bool true)) (w.heap.size + 1) 4 #[.bool true] := heap_setCell_same wz _ 0 _ _ _ hR
          have hBY : Below w.heap.size w (wz.setCell ⟨w.heap.size + 1, 0, none⟩ (.bool true)) := (bstep (bstep HA.out.2.2.2.2.2.1 hblX) hZ).setCell (p := ⟨w.heap.size + 1, 0, none⟩) (by simp) _
          obtain ⟨Y9, hY9⟩ : ∃ Y9, wz.setCell ⟨w.heap.size + 1, 0, none⟩ (.bool true) = Y9 := ⟨_, rfl⟩
          rw [hY9] at hdY bY hBY ⊢
          have bY2 : Blk (Y9.putObj Dd (.deferred none)) (w.heap.size + 1) 4 #[.bool true] := bY.kept (grownBy_putObj' Y9 Dd _) (by intro e; injection e with e; omega)
          have r0 := cell_of_row _ _ 0 _ _ _ bY2
          refine ⟨by simp, .inl ⟨_, _, rfl, run_takeDeferred hdY, ?_⟩⟩
          exact ⟨.bool true, by simp [results, Try.results3, go_sem, r0], rfl, hBY.trans (below_put Y9 _ (by omega))⟩
      · have hmI : ((N : Int) % 2) = 1 := by omega
        have hmT : (Int.tmod (N : Int) 2) = 1 := by rw [Int.tmod_eq_emod_of_nonneg (by omega)]; omega
        clear hpar
        go_upto_region 15 with fail
        obtain ⟨Z0, hZ0⟩ : ∃ Z, wr.alloc (.cells #[.map none, .map none, .int .i64 0] 44) = Z := ⟨_, rfl⟩
        have hNS : NoS Z0 (.pointer (some ⟨wr.heap.size, 0, none⟩)) := .inr ⟨_, _, _, rfl, by rw [← hZ0]; exact Blk.new _ _ _⟩
        have hbZ : Below wr.heap.size wr Z0 := by rw [← hZ0]; exact balloc (Below.refl _ _) _
        rw [hZ0]
        clear hZ0
        have HZ0 := Lib.hid (And.intro hNS hbZ)
        clear hNS hbZ
        go_upto_region 16 with (first
          | (go_at_call 14; refine (sall_none _ _ HZ0.out.1).mono ?_; rintro e z3 ⟨gk, gm, rfl, hA, _, _, hb⟩; have H3 := Lib.hid (And.intro hA hb); clear hA hb)
          | fail)
        have hnil : ∀ (p q : Value) w, (binOp .eql 46 (.func (.func 32) #[] #[p, q]) .nilFunc).run Try.prog w = .ok (.bool false) w := fun _ _ _ => by kernel_rfl
        go_upto_region 18 with fail
        go_wp2_with fail
        refine (wpIn_wide (n := 20)).1 ?_
        refine wpIn_rangeV (n := 20) (by omega) (gf := 32) (lb := #[.pointer (some ⟨gk, 0, none⟩), .pointer (some ⟨gm, 0, none⟩)]) rfl enters_all
          (allN_seq (20 - 1) gk gm z3.heap.size z3 H3.out.1) (Below.refl _ _) (Nat.le_refl _) (fun k h => h.elim) (fun _ => rfl)
          (fun _ X => Below z3.heap.size z3 X) (fun _ _ _ => False)
          (fun pre X Y row h hw hr => h.grown hw h.size (fun x e => by rcases hr x e with h | h | h; exact h.elim; omega; omega))
          (fun _ _ _ _ _ h _ _ => h.elim) (fun pre X h => trivial) (Below.refl _ _)
          (fun _ _ _ => True) (fun _ _ _ _ _ _ _ _ _ => trivial)
          ?assign2 ?body2 ?done2 ?stop2
        case assign2 => intro _ _ _ _ _ h; exact h.elim
        case body2 => intro _ _ _ _ _ _ h; exact h.elim
        case stop2 => intro _ _ _ _ _ _ h; exact h.elim
        case done2 =>
          rintro Dd xs X1 hD rfl hI hK
          obtain ⟨p11, hp11⟩ : ∃ p, Value.pointer (some ⟨wr.heap.size, 0, none⟩) = p := ⟨_, rfl⟩
          have hbX : Below wr.heap.size wr X1 := bstep (bstep HZ0.out.2 H3.out.2) hI
          have hNX : NoS X1 p11 := by rw [← hp11]; exact (HZ0.out.1.keep H3.out.2).keep hI
          have hWX := HE.out.1.keep hbX
          have hblX : Below W1.heap.size W1 X1 := HE.out.2.2.2.1.trans (hbX.mono HE.out.2.2.2.1.size)
          have hnK : Blk X1 w.heap.size 25 (Wc n) := HA.out.2.2.2.1.keep hblX
          have hnV : Blk X1 (w.heap.size + 1) 4 #[.bool false] := HA.out.2.2.2.2.1.keep hblX
          have hn := HA.out.2.2.1
          have e0 : ∀ Z, Below X1.heap.size X1 Z → Z.cell? ⟨w.heap.size, 0, none⟩ = some (.int .u64 (lb n 0)) := fun Z h => cell_of_row Z _ 0 _ _ _ (hnK.keep h)
          have e1 : ∀ Z, Below X1.heap.size X1 Z → Z.cell? ⟨w.heap.size, 1, none⟩ = some (.int .u64 (lb n 1)) := fun Z h => cell_of_row Z _ 1 _ _ _ (hnK.keep h)
          have e2 : ∀ Z, Below X1.heap.size X1 Z → Z.cell? ⟨w.heap.size, 2, none⟩ = some (.int .u64 (lb n 2)) := fun Z h => cell_of_row Z _ 2 _ _ _ (hnK.keep h)
          have e3 : ∀ Z, Below X1.heap.size X1 Z → Z.cell? ⟨w.heap.size, 3, none⟩ = some (.int .u64 (lb n 3)) := fun Z h => cell_of_row Z _ 3 _ _ _ (hnK.keep h)
          have h0 : Below X1.heap.size X1 X1 := Below.refl _ _
          have HPU := Lib.hid (fun Z (hZ : Below X1.heap.size X1 Z) => (by have h := put_none p11 n (0, 0) Z (hNX.keep hZ); rw [vP0] at h; exact h : Calls Try.prog 16 #[p11, W n, .agg #[.int .u64 0, .int .u64 0, .int .u64 0, .int .u64 0, .int .u64 0]] Z fun e w' => e = .returned (.int .i64 1) ∧ Below Z.heap.size Z w'))
          have HSE := Lib.hid (fun Z (hZ : Below X1.heap.size X1 Z) => settle_none p11 Z (hNX.keep hZ))
          have HGE := Lib.hid (fun Z (hZ : Below X1.heap.size X1 Z) => (by have h := get_none p11 n Z (hNX.keep hZ); rw [vP0] at h; exact h : Calls Try.prog 10 #[p11, W n] Z fun e w' => e = .returned (.agg #[.int .u64 0, .int .u64 0, .int .u64 0, .int .u64 0, .int .u64 0]) ∧ Below Z.heap.size Z w'))
          have HWA := Lib.hid (fun Z (hZ : Below X1.heap.size X1 Z) => (by have h := was_none p11 n Z (hNX.keep hZ); rw [vP0] at h; exact h : Calls Try.prog 12 #[p11, W n] Z fun e w' => e = .returned (.agg #[.int .u64 0, .int .u64 0, .int .u64 0, .int .u64 0, .int .u64 0]) ∧ Below Z.heap.size Z w'))
          have HLN := Lib.hid (fun Z (hZ : Below X1.heap.size X1 Z) => len_none p11 Z (hNX.keep hZ))
          have HCO := Lib.hid (fun Z (hZ : Below X1.heap.size X1 Z) => copy_none p11 Z (hNX.keep hZ))
          have HAL := Lib.hid (fun Z (hZ : Below X1.heap.size X1 Z) => (by exact alike_none2 p11 (.pointer none) 0 Z (hNX.keep hZ) (.inl rfl) : Calls Try.prog 20 #[p11, .pointer none, .int .u64 0] Z fun e w' => e = .returned (.bool true) ∧ Z = w'))
          obtain ⟨g5, bv5, bw5, many5, fv5, fw5, rfl, hs5⟩ := hWX.ptr
          have HAM := Lib.hid (fun Z (hZ : Below X1.heap.size X1 Z) => (by exact alike_none1 (.pointer (some ⟨g5, 0, none⟩)) p11 0 Z g5 _ _ _ rfl (hs5.1.keep hZ) (hNX.keep hZ) : Calls Try.prog 20 #[.pointer (some ⟨g5, 0, none⟩), p11, .int .u64 0] Z fun e w' => e = .returned (.bool false) ∧ Z = w'))
          have hzz : ∀ X, (binOp .eql 36 (.agg #[.int .u64 0, .int .u64 0, .int .u64 0, .int .u64 0, .int .u64 0]) (.agg #[.int .u64 0, .int .u64 0, .int .u64 0, .int .u64 0, .int .u64 0])).run Try.prog X = .ok (.bool true) X := fun X => by have h := eqVal_any (0, 0) (0, 0) okP0 okP0 X; rw [vP0] at h; exact h
          have hDn : w.heap.size + 2 ≤ Dd := by have h1 := HA.out.2.2.2.2.2.2; have h2 := HE.out.2.2.2.1.size; have h3 := HZ0.out.2.size; have h4 := H3.out.2.size; omega
          have HF := Lib.hid (And.intro hnV (And.intro hblX (And.intro hK hDn)))
          have HP := Lib.hid hp11
          rw [hp11]
          clear hbX hNX hWX hblX hnK hnV hn hI hK hD hDn HZ0 H3 HE hs5 hnil hp11
          go_wp2_with (first
            | (go_at_call 16; refine (HPU.out _ (by with_reducible assumption)).mono ?_; rintro e y1 ⟨rfl, hz⟩; have hH1 : Below X1.heap.size X1 y1 := rstep hz (by with_reducible assumption); clear hz)
            | (go_at_call 15; refine (snum_any _ _).mono ?_; rintro e w6 ⟨rfl, rfl⟩)
            | (go_at_call 17; refine (HSE.out _ (by with_reducible assumption)).mono ?_; rintro e y2 ⟨rfl, rfl⟩)
            | (go_at_call 10; refine (HGE.out _ (by with_reducible assumption)).mono ?_; rintro e y3 ⟨rfl, hz⟩; have hH3 : Below X1.heap.size X1 y3 := rstep hz (by with_reducible assumption); clear hz)
            | (go_at_call 12; refine (HWA.out _ (by with_reducible assumption)).mono ?_; rintro e y4 ⟨rfl, hz⟩; have hH4 : Below X1.heap.size X1 y4 := rstep hz (by with_reducible assumption); clear hz)
            | (go_at_call 18; refine (HLN.out _ (by with_reducible assumption)).mono ?_; rintro e y5 ⟨rfl, rfl⟩)
            | (go_at_call 19; refine (HCO.out _ (by with_reducible assumption)).mono ?_; rintro e y6 ⟨rfl, rfl⟩)
            | (go_at_call 20; with_reducible refine (HAL.out y4 hH4).mono ?_; rintro e y7 ⟨rfl, rfl⟩)
            | (go_at_call 20; with_reducible refine (HAM.out y4 hH4).mono ?_; rintro e y8 ⟨rfl, rfl⟩)
            | (go_at_call 6; refine (sworks_any _).mono ?_; rintro e wz ⟨rfl, hz⟩; have hZ : Below X1.heap.size X1 wz := rstep hz (by with_reducible assumption); have hR := HF.out.1.keep hZ; have f0 := frozen_of_row _ _ 0 _ _ hR; have d0 : wz.cell? ⟨w.heap.size + 1, 0, none⟩ = some (.bool false) := cell_of_row _ _ 0 _ _ _ hR; have HZ := Lib.hid (And.intro hR hZ); clear hz hR hZ)
            | fail)
          obtain ⟨_, hblX, hK, hDn⟩ := HF.out
          obtain ⟨hR, hZ⟩ := HZ.out
          have hdY : (wz.setCell ⟨w.heap.size + 1, 0, none⟩ (.bool true)).heap[Dd]? = some (.deferred (some [])) := (Below.heap_setCell wz ⟨w.heap.size + 1, 0, none⟩ _ Dd (by simp; omega)).trans ((hZ.block Dd (Array.getElem?_eq_some_iff.1 hK).1).trans hK)
          have bY : Blk (wz.setCell ⟨w.heap.size + 1, 0, none⟩ (.bool true)) (w.heap.size + 1) 4 #[.bool true] := heap_setCell_same wz _ 0 _ _ _ hR
          have hBY : Below w.heap.size w (wz.setCell ⟨w.heap.size + 1, 0, none⟩ (.bool true)) := (bstep (bstep HA.out.2.2.2.2.2.1 hblX) hZ).setCell (p := ⟨w.heap.size + 1, 0, none⟩) (by simp) _
          obtain ⟨Y9, hY9⟩ : ∃ Y9, wz.setCell ⟨w.heap.size + 1, 0, none⟩ (.bool true) = Y9 := ⟨_, rfl⟩
          rw [hY9] at hdY bY hBY ⊢
          have bY2 : Blk (Y9.putObj Dd (.deferred none)) (w.heap.size + 1) 4 #[.bool true] := bY.kept (grownBy_putObj' Y9 Dd _) (by intro e; injection e with e; omega)
          have r0 := cell_of_row _ _ 0 _ _ _ bY2
          refine ⟨by simp, .inl ⟨_, _, rfl, run_takeDeferred hdY, ?_⟩⟩
          exact ⟨.bool true, by simp [results, Try.results3, go_sem, r0], rfl, hBY.trans (below_put Y9 _ (by omega))⟩
end Go.Proofs.Ytcfnhilcpfiocaa

