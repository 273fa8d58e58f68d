/- account: an account out of a body. -/
import Derived.Test.YtcplhalgjjhmdaaAce
namespace Go.Proofs.Ytcplhalgjjhmdaa
open Go.RowKit Go.Shelf Go.ChangeMaps Go.MapKept

noncomputable def acF (i : Nat) : Field := match Try.prog.underlying 38 with
  | some (.struct fs) => (fs[i]?).getD default
  | _ => default
theorem undac : Try.prog.underlying 38 = some (.struct #[acF 0, acF 1, acF 2]) := by kernel_rfl
theorem info_ac : (Try.prog.info? 38).map (·.size) = some 7 := by kernel_rfl
theorem acC_one (v : Nat × Nat) (n : Nat) (x : Option Addr) (k c : Nat) : (acC v n (.slice x k c)).all (·.oneCell') = true := by simp [acC, Value.oneCell']
theorem acC_set {X : World} {g : Nat} {t : TypeId} {v : Nat × Nat} {n : Nat} {c d : Value} (h : Blk X g t (acC v n c)) : Blk (X.setCell ⟨g, 6, none⟩ d) g t (acC v n d) := by
  have h' := heap_setCell_same _ _ 6 _ _ d h
  unfold Blk
  simpa only [acC, List.setIfInBounds_toArray, List.set_cons_zero, List.set_cons_succ] using h'
/-- A slice whose row is new. -/
def FrS (n : Nat) (c : Value) : Prop := ∀ a k d, c = .slice (some a) k d → n ≤ a.block
theorem Bto.stay {B n : Nat} {X Y : World} {c : Value} {l : List Nat} {M : Nat → Prop} (h : Bto B X c l) (hf : FrS n c) (hc : Chg M X Y) (hM : ∀ k, M k → k < n) : Bto Y.heap.size Y c l := by
  obtain ⟨h1, x, cap, rfl, h3, h4, h5⟩ := h
  refine ⟨h1, x, cap, rfl, h3, h4, fun hl => ?_⟩
  obtain ⟨b, o, rfl, hb, hbx, hcell⟩ := h5 hl
  have hn := hf _ _ _ rfl
  have hk := hc.block b hbx (fun hm => by have := hM b hm; simp at hn; omega)
  exact ⟨b, o, rfl, Nat.lt_of_lt_of_le hbx hc.size, Nat.lt_of_lt_of_le hbx hc.size, fun k u hu => (cell_heap (p := ⟨b, o + k, none⟩) hk).trans (hcell k u hu)⟩
theorem Bto.empty (B : Nat) (X : World) : Bto B X (.slice none 0 0) [] := ⟨by simp, none, 0, rfl, by simp, by simp, fun h => (h rfl).elim⟩
set_option maxRecDepth 100000 in
set_option maxHeartbeats 4000000 in
theorem accB_any (e : En) (he : okE e) (w : World) :
    Calls Try.prog 26 #[.agg (boC e)] w fun r w' => ∃ c, r = .returned (.agg (acC e.1 e.2.1 c)) ∧ Bto w'.heap.size w' c e.2.2.1 ∧ FrS w.heap.size c ∧ Below w.heap.size w w' := by
  obtain ⟨v, n, l, o⟩ := e
  obtain ⟨_, _, hl⟩ := he
  replace hl : okC l := hl
  show Calls _ _ _ w fun r w' => ∃ c, r = .returned (.agg (acC v n c)) ∧ Bto w'.heap.size w' c l ∧ FrS w.heap.size c ∧ Below w.heap.size w w'
  obtain ⟨zz, hzz⟩ : ∃ z : Array Value, #[.int .u64 0, .int .u64 0, .int .u64 0, .int .u64 0, .int .u64 0, .int .u64 0, .slice none 0 0] = z := ⟨_, rfl⟩
  obtain ⟨S, hS⟩ : ∃ S, coS l = S := ⟨_, rfl⟩
  obtain ⟨X, hX⟩ : ∃ X, ((w.alloc (.cells #[.int .u64 (lb v.1 0), .int .u64 (lb v.1 1), .int .u64 (lb v.1 2), .int .u64 (lb v.1 3), .int .u64 (v.2 : Nat), .int .u64 (n : Nat), .string S] 70)).alloc (.cells zz 38)) = X := ⟨_, rfl⟩
  have b1 : Blk X w.heap.size 70 #[.int .u64 (lb v.1 0), .int .u64 (lb v.1 1), .int .u64 (lb v.1 2), .int .u64 (lb v.1 3), .int .u64 (v.2 : Nat), .int .u64 (n : Nat), .string S] := by rw [← hX]; exact (Blk.new w _ _).alloc _
  have b2 : Blk X (w.heap.size + 1) 38 zz := by rw [← hX]; exact Blk.newS w _ _ _
  have hW : Below w.heap.size w X := by rw [← hX]; exact balloc (balloc (Below.refl _ _) _) _
  obtain ⟨X3, hX3⟩ : ∃ X3, X.alloc (.cells (acC v n (.slice none 0 0)) 38) = X3 := ⟨_, rfl⟩
  have b3 : Blk X3 X.heap.size 38 (acC v n (.slice none 0 0)) := by rw [← hX3]; exact Blk.new _ _ _
  have h3 : Below X.heap.size X X3 := by rw [← hX3]; exact balloc (Below.refl _ _) _
  have hs : X.heap.size = w.heap.size + 2 := by rw [← hX]; simp
  have b1' := b1.keep h3
  have b2' := b2.keep h3
  have c0 : X.cell? ⟨w.heap.size, 0, none⟩ = some (.int .u64 (lb v.1 0)) := cell_of_row _ _ 0 _ _ _ b1
  have c1 : X.cell? ⟨w.heap.size, 1, none⟩ = some (.int .u64 (lb v.1 1)) := cell_of_row _ _ 1 _ _ _ b1
  have c2 : X.cell? ⟨w.heap.size, 2, none⟩ = some (.int .u64 (lb v.1 2)) := cell_of_row _ _ 2 _ _ _ b1
  have c3 : X.cell? ⟨w.heap.size, 3, none⟩ = some (.int .u64 (lb v.1 3)) := cell_of_row _ _ 3 _ _ _ b1
  have c4 : X.cell? ⟨w.heap.size, 4, none⟩ = some (.int .u64 (v.2 : Nat)) := cell_of_row _ _ 4 _ _ _ b1
  have c5 : X.cell? ⟨w.heap.size, 5, none⟩ = some (.int .u64 (n : Nat)) := cell_of_row _ _ 5 _ _ _ b1
  have c6 : X3.cell? ⟨w.heap.size, 6, none⟩ = some (.string S) := cell_of_row _ _ 6 _ _ _ b1'
  have HX := Lib.hid (And.intro hX (And.intro hX3 (And.intro b3 (And.intro b2' (And.intro (bstep hW h3) hs)))))
  have HZ := Lib.hid (And.intro hzz (show zz.size = 7 by rw [← hzz]; rfl))
  have hb : boC (v, n, l, o) = #[.int .u64 (lb v.1 0), .int .u64 (lb v.1 1), .int .u64 (lb v.1 2), .int .u64 (lb v.1 3), .int .u64 (v.2 : Nat), .int .u64 (n : Nat), .string S] := by rw [← hS]
  rw [hb]
  clear hX hX3 b1 b2 b3 b1' b2' hW h3 hs hzz hb
  by_cases h0 : l = []
  · have hne : S = ⟨#[]⟩ := by rw [← hS, h0]; rfl
    subst hne
    have HL := Lib.hid h0
    clear hl hS h0
    go_enter Try.func26, Try.ntmps26
    go_upto_region 1 with fail
    rw [HZ.out.1, HX.out.1]
    go_upto_region 2 with fail
    rw [HX.out.2.1]
    go_upto_region 4 with fail
    refine wp_region_lit ?_
    refine wpList_load_midA rfl 38 (.tmp 3) rfl X.heap.size 0 rfl (acC v n (.slice none 0 0)) _ HX.out.2.2.1.range undac rfl (by rw [info_ac]; rfl) ?_
    refine wpList_store_row rfl 38 (.tmp 2) (.tmp 16) rfl (w.heap.size + 1) (acC v n (.slice none 0 0)) rfl rfl 38 zz HX.out.2.2.2.1 (by rw [info_ac]; rfl) (by rw [HZ.out.2]; rfl) (acC_one _ _ _ _ _) (wpList_nil ?_)
    have hgr : Blk (X3.setRow (w.heap.size + 1) (acC v n (.slice none 0 0))) (w.heap.size + 1) 38 (acC v n (.slice none 0 0)) := setRow_heap _ _ _ _ _ _ HX.out.2.2.2.1
    have HR := Lib.hid (And.intro hgr (show Below w.heap.size w (X3.setRow (w.heap.size + 1) (acC v n (.slice none 0 0))) from below_setRow HX.out.2.2.2.2.1 (by omega) _))
    clear hgr c0 c1 c2 c3 c4 c5 c6
    obtain ⟨E, hE⟩ : ∃ E, acC v n (.slice none 0 0) = E := ⟨_, rfl⟩
    have HE := Lib.hid (And.intro hE (show E.size = 7 by rw [← hE]; rfl))
    rw [hE] at HR ⊢
    clear hE
    generalize X3.setRow (w.heap.size + 1) E = Z at HR ⊢
    go_wp2_with fail
    exact ⟨rfl, _, results_cell_row rfl _ _ (w.heap.size + 1) 38 E (0, 0) _ rfl HR.out.1 undac rfl (by rw [info_ac, HE.out.2]), ⟨.slice none 0 0, by rw [HE.out.1], by rw [HL.out]; exact Bto.empty _ _, fun a k d h => (by cases h), HR.out.2⟩⟩
  · obtain ⟨Y, c, hcv, hB, hY⟩ := abytes l hl X3
    rw [hS] at hcv
    have hne : S.toList.isEmpty = false := by
      have e : S.toList = l.map UInt8.ofNat := by rw [← hS]; exact coS_list l
      rw [e]
      cases l with
      | nil => exact (h0 rfl).elim
      | cons _ _ => rfl
    obtain ⟨N, hN⟩ : ∃ N, l.length = N := ⟨_, rfl⟩
    rw [hN] at hcv hB
    have b3Y := HX.out.2.2.1.keep hY
    have fY := frozen_of_row _ _ 6 _ _ b3Y
    have cY : Y.cell? ⟨X.heap.size, 6, none⟩ = some (.slice none 0 0) := cell_of_row _ _ 6 _ _ _ b3Y
    have hZ := acC_set (d := .slice (some ⟨X3.heap.size, 0, none⟩) N c) b3Y
    have HQ := Lib.hid (And.intro hB (And.intro hY (And.intro hZ (HX.out.2.2.2.1.keep hY))))
    clear hB hY hZ b3Y hN h0 hS hl
    go_enter Try.func26, Try.ntmps26
    go_upto_region 1 with fail
    rw [HZ.out.1, HX.out.1]
    go_upto_region 2 with fail
    rw [HX.out.2.1]
    go_upto_region 4 with fail
    obtain ⟨Z, hZe⟩ : ∃ Z, Y.setCell ⟨X.heap.size, 6, none⟩ (.slice (some ⟨X3.heap.size, 0, none⟩) N c) = Z := ⟨_, rfl⟩
    obtain ⟨E, hE⟩ : ∃ E, acC v n (.slice (some ⟨X3.heap.size, 0, none⟩) N c) = E := ⟨_, rfl⟩
    have hsz := HX.out.2.2.2.2
    have hbZ : Below w.heap.size w Z := by rw [← hZe]; exact (hsz.1.trans (HQ.out.2.1.mono hsz.1.size)).setCell (p := ⟨X.heap.size, 6, none⟩) (by have := hsz.2; simp; omega) _
    have kZ : Blk Z X.heap.size 38 E := by rw [← hZe, ← hE]; exact HQ.out.2.2.1
    have kz2 : Blk Z (w.heap.size + 1) 38 zz := by rw [← hZe]; exact HQ.out.2.2.2.kept (grown_set' (grown_refl _ _) _ _) (by intro e; have := Option.some.inj e; have := hsz.2; omega)
    have hBZ : Bto Z.heap.size Z (.slice (some ⟨X3.heap.size, 0, none⟩) N c) l := by
      have h := HQ.out.1
      have hlt := HX.out.2.2.1.lt
      rw [← hZe]
      obtain ⟨h1, x, cap, h2, h3, h4, h5⟩ := h
      refine ⟨h1, x, cap, h2, h3, h4, fun hl => ?_⟩
      obtain ⟨b, o2, e, hb, hbx, hc⟩ := h5 hl
      injection h2 with e1 _ _
      rw [← e1] at e
      injection e with e
      injection e with e2 e3 _
      refine ⟨b, o2, by rw [← e1, ← e2, ← e3], by simpa using hb, by simpa using hbx, fun k u hk => ?_⟩
      have hne2 : b ≠ X.heap.size := by rw [← e2]; omega
      have := (grown_set' (grown_refl Y X.heap.size) 6 (.slice (some ⟨X3.heap.size, 0, none⟩) N c)).block b hbx (fun e => hne2 (Option.some.inj e))
      exact (cell_heap (p := ⟨b, o2 + k, none⟩) this).trans (hc k u hk)
    have HE := Lib.hid (And.intro hE (And.intro (show E.size = 7 by rw [← hE]; rfl) (show E.all (·.oneCell') = true by rw [← hE]; exact acC_one _ _ _ _ _)))
    have HK := Lib.hid (And.intro hbZ (And.intro kZ (And.intro kz2 hBZ)))
    rw [hZe]
    clear hE hbZ kZ kz2 hBZ hZe hsz cY fY hcv hne c0 c1 c2 c3 c4 c5 c6
    refine wp_region_lit ?_
    refine wpList_load_midA rfl 38 (.tmp 3) rfl X.heap.size 0 rfl E _ HK.out.2.1.range undac rfl (by rw [info_ac, HE.out.2.1]) ?_
    refine wpList_store_row rfl 38 (.tmp 2) (.tmp 16) rfl (w.heap.size + 1) E rfl rfl 38 zz HK.out.2.2.1 (by rw [info_ac, HE.out.2.1]) (by rw [HZ.out.2, HE.out.2.1]) HE.out.2.2 (wpList_nil ?_)
    have hgr : Blk (Z.setRow (w.heap.size + 1) E) (w.heap.size + 1) 38 E := setRow_heap _ _ _ _ _ _ HK.out.2.2.1
    have hBF : Bto (Z.setRow (w.heap.size + 1) E).heap.size (Z.setRow (w.heap.size + 1) E) (.slice (some ⟨X3.heap.size, 0, none⟩) N c) l := by
      obtain ⟨h1, x, cap, h2, h3, h4, h5⟩ := HK.out.2.2.2
      refine ⟨h1, x, cap, h2, h3, h4, fun hl => ?_⟩
      obtain ⟨b, o2, e, hb, hbx, hc⟩ := h5 hl
      injection h2 with e1 _ _
      have e' := e
      rw [← e1] at e'
      injection e' with e'
      injection e' with e2 e3 _
      have hlt := HX.out.2.2.1.lt
      have hsz := HX.out.2.2.2.2.2
      exact ⟨b, o2, e, by simpa [World.setRow] using hb, by simpa [World.setRow] using hbx, fun k u hk => (cell_heap (p := ⟨b, o2 + k, none⟩) (setRow_other Z (w.heap.size + 1) b E (by omega))).trans (hc k u hk)⟩
    have HR := Lib.hid (And.intro hgr (And.intro (show Below w.heap.size w (Z.setRow (w.heap.size + 1) E) from below_setRow HK.out.1 (by omega) _) hBF))
    clear hgr hBF
    generalize Z.setRow (w.heap.size + 1) E = Z9 at HR ⊢
    go_wp2_with fail
    exact ⟨rfl, _, results_cell_row rfl _ _ (w.heap.size + 1) 38 E (0, 0) _ rfl HR.out.1 undac rfl (by rw [info_ac, HE.out.2.1]), ⟨_, by rw [HE.out.1], HR.out.2.2, fun a k d h => by injection h with h _ _; injection h with h; rw [← h]; exact HX.out.2.2.2.2.1.size, HR.out.2.1⟩⟩
end Go.Proofs.Ytcplhalgjjhmdaa
