/- item: First's closure, of bytes that begin with an item of bytes, or with none. -/
import Derived.Test.YtjmfnafbjfceoaaDoorJh
namespace Go.Proofs.YtjmfnafbjfceoaaDoor
open Go.RowKit Go.Shelf
attribute [local irreducible] lb wdG byA byC heL nuL
theorem KM.kept {w X : World} {b : Nat} {row : Option Nat} (h : KM w b) (hg : w.grownBy X row) (hne : some b ≠ row) : KM X b := (hg.block b (Array.getElem?_eq_some_iff.1 h).1 hne).trans h
theorem cut_len {l : List Nat} {k : Nat} {b r : List Nat} (h : cutS l = some (k, b, r)) : b.length ≤ l.length ∧ r.length ≤ l.length := by
  cases l with
  | nil => cases h
  | cons f r0 =>
    rw [cutS_cons] at h
    split at h
    · injection h with h; injection h with _ h; injection h with h1 h2; subst h1 h2; simp
    · have hle : ∀ s n r2, leS s r0 = some (n, r2) → r2.length ≤ r0.length := fun s n r2 h => by
        unfold leS at h
        split at h
        · injection h with h; injection h with _ h; subst h; exact Nat.le_refl _
        · split at h
          · cases h
          · split at h
            · injection h with h; injection h with _ h; subst h; simp
            · cases h
      cases hl : leS (f - hdN (kdN f)) r0 with
      | none => rw [hl] at h; cases h
      | some nr =>
        obtain ⟨n, r2⟩ := nr
        rw [hl] at h
        have h2 := hle _ _ _ hl
        simp only at h
        split at h
        · cases h
        · injection h with h; injection h with _ h; injection h with h3 h4; subst h3 h4
          simp; omega

set_option maxRecDepth 100000 in
set_option maxHeartbeats 4000000 in
theorem first1_ret (B R : Nat) (v : Value) (l : List Nat) (d : Int) (M : Nat) (k : Nat) (body r2 : List Nat) (w : World) (hR : RB w R v d M) (hv : Bt B w v l) (hB : B ≤ R) (hH : HD w) (hgR : 0 < R) (hM : KM w M) (hMR : M ≠ R) (hl : l.length ≤ 4096) (hcs : cutS l = some (k, body, r2)) (hk : k = 0 ∨ k = 1) (hko : koL body = k) :
    Calls Tryd.prog 35 #[.pointer (some ⟨R, 0, none⟩)] w fun e w' => ∃ x m c, e = .returned (itB (.slice x m c)) ∧ Ow w' w.heap.size (.slice x m c) body ∧ (∃ v2, RB w' R v2 d M ∧ Bt B w' v2 r2) ∧ w.grownBy w' (some R) := by
  obtain ⟨_, y, e, rfl, _⟩ := id hv
  have hW := balloc (Below.refl w.heap.size w) (.cells #[.bool false, .slice none 0 0, .slice none 0 0] 25)
  have hI := Blk.new w 25 #[.bool false, .slice none 0 0, .slice none 0 0]
  have hRl := hR.lt
  obtain ⟨W1, hW1⟩ : ∃ W1, w.alloc (.cells #[.bool false, .slice none 0 0, .slice none 0 0] 25) = W1 := ⟨_, rfl⟩
  rw [hW1] at hW hI
  have hd0 : Below W1.heap.size W1 W1.drew := (Below.refl _ _).drew
  have hWd := bstep hW hd0
  have hRd := hR.keep hWd
  have hvd := hv.new hWd
  have hHd := hH.keep hWd
  have hMd := hM.keep hWd
  have hId := hI.keep hd0
  have hC := cut_any B R _ l d M W1.drew hRd hvd hB hHd hgR
  rw [hcs] at hC
  have HC := Lib.hid (hC.mono (R' := fun e w' => ∃ x m c, e = .returned (.agg #[.int .i64 k, .slice x m c]) ∧ Bt B w' (.slice x m c) body ∧ (∃ v2, RB w' R v2 d M ∧ Bt B w' v2 r2) ∧ W1.drew.grownBy w' (some R)) (fun e w' h => by obtain ⟨x, m, c, h1, h2, h3⟩ := h.2; exact ⟨x, m, c, h1, h2, h3, h.1⟩))
  have hbl := (cut_len hcs).1
  have r0 : W1.drew.cell? ⟨R, 0, none⟩ = some (.slice y l.length e) := cell_of_row _ _ 0 _ _ _ hRd
  have r1 : W1.drew.cell? ⟨R, 1, none⟩ = some (.int .i64 d) := cell_of_row _ _ 1 _ _ _ hRd
  have r2' : W1.drew.cell? ⟨R, 2, none⟩ = some (.map (some M)) := cell_of_row _ _ 2 _ _ _ hRd
  have HX := Lib.hid (And.intro hWd (And.intro hHd (And.intro hMd hId)))
  clear hC hR hv hH hM hW hI hd0 hWd hRd hvd hHd hMd hId hcs
  obtain ⟨N, hN⟩ : ∃ N, l.length = N := ⟨_, rfl⟩
  rw [hN] at r0
  clear hN
  go_enter Tryd.func35, Tryd.ntmps35
  go_wp2_with fail
  refine (wpIn_wide (n := 20)).1 (wpIn_region_any (by kernel_rfl) ?_)
  refine wpAnyIn_take (i := 1) (v := ?vq1) rfl rfl (by kernel_rfl) (by kernel_rfl) (by kernel_rfl) (fun _ _ _ h => h) ⟨Or.inl ⟨by rfl, ?yq1⟩, fun _ => rfl⟩ ?rq1
  case yq1 => (intro w; go_simp <;> with_reducible rfl)
  refine wpAnyIn_ready (rs := [0, 2]) (by kernel_rfl) (by simp) ?_
  refine AllReadyIn.cons rfl (fun K hK => ?_) (AllReadyIn.cons rfl (fun K hK => ?_) (AllReadyIn.nil))
  · go_simp
    refine hK _ _ ?_
    clear hK K
    refine wpAnyIn_ready (rs := [2]) (by kernel_rfl) (by simp) ?_
    refine AllReadyIn.cons rfl (fun K hK => ?_) (AllReadyIn.nil)
    go_simp
    refine ⟨trivial, (callsIn_wide.2 HC.out).mono ?_⟩
    rintro e w3 ⟨x3, m3, c3, rfl, hb3, ⟨v3, hR3, hv3⟩, hg3⟩
    have hH3 := HX.out.2.1.far (by omega) hg3
    have hM3 := HX.out.2.2.1.kept hg3 (fun e => by injection e; omega)
    have hI3 := HX.out.2.2.2.kept hg3 (fun e => by injection e; omega)
    have hgw3 := grown_then' (grown_of R HX.out.1) hg3
    obtain ⟨_, y3, e3, rfl, _⟩ := id hv3
    have q0 : w3.cell? ⟨R, 0, none⟩ = some (.slice y3 r2.length e3) := cell_of_row _ _ 0 _ _ _ hR3
    have q1 : w3.cell? ⟨R, 1, none⟩ = some (.int .i64 d) := cell_of_row _ _ 1 _ _ _ hR3
    have q2 : w3.cell? ⟨R, 2, none⟩ = some (.map (some M)) := cell_of_row _ _ 2 _ _ _ hR3
    have hRead := fun (vv : Value) (hvv : ∃ y n e, vv = .slice y n e) => read_bytes B vv k x3 m3 c3 body d 1 M w3 hk ⟨by omega, by omega⟩ hvv hb3 (by omega) hM3 hH3
    have HR := Lib.hid hRead
    have H3 := Lib.hid (And.intro hR3 (And.intro hv3 (And.intro hI3 (And.intro hgw3 hg3))))
    clear hb3 hR3 hv3 hg3 hH3 hM3 hI3 hgw3 hRead
    refine hK _ _ ?_
    clear hK K
    refine wpAnyIn_ready (rs := [3]) (by kernel_rfl) (by simp) ?_
    refine AllReadyIn.cons rfl (fun K hK => ?_) (AllReadyIn.nil)
    go_simp
    refine ⟨trivial, (callsIn_wide.2 (HR.out (.slice y N e) ⟨_, _, _, rfl⟩)).mono ?_⟩
    rintro e w4 ⟨h4, he4⟩
    rw [if_pos hko] at he4
    obtain ⟨x5, m5, c5, rfl, hO5⟩ := he4
    have hI4 := H3.out.2.2.1.keep h4
    have i0 := cell_of_row w4 _ 0 _ _ _ hI4
    have i1 := cell_of_row w4 _ 1 _ _ _ hI4
    have i2 := cell_of_row w4 _ 2 _ _ _ hI4
    have f0 := frozen_of_row w4 _ 0 _ _ hI4
    have f1 := frozen_of_row w4 _ 1 _ _ hI4
    have f2 := frozen_of_row w4 _ 2 _ _ hI4
    have hG := grown_set' (grown_set' (grown_set' (grown_refl w4 w.heap.size) 0 (.bool false)) 1 (.slice x5 m5 c5)) 2 (.slice none 0 0)
    have hs3 : w.heap.size + 1 ≤ w3.heap.size := by have h1 := H3.out.2.2.2.2.size; have h2 := HX.out.2.2.2.lt; omega
    have HE := Lib.hid (show Ow _ w.heap.size (.slice x5 m5 c5) body ∧ (∃ v2, RB _ R v2 d M ∧ Bt B _ v2 r2) ∧ w.grownBy _ (some R) from ⟨(hO5.kept hG (fun r e => by cases e; omega)).mono (by omega), ⟨_, (H3.out.1.keep h4).kept hG (fun e => by injection e; omega), (H3.out.2.1.new h4).far hG (by omega)⟩, grown_above (grown_then H3.out.2.2.2.1 h4) hG (Nat.le_refl _)⟩)
    clear hI4 hG hO5 h4 q0 q1 q2 r0 r1 r2'
    refine hK _ _ ?_
    clear hK K
    refine wpAnyIn_ready (rs := [4]) (by kernel_rfl) (by simp) ?_
    refine AllReadyIn.cons rfl (fun K hK => ?_) (AllReadyIn.nil)
    go_simp
    refine hK _ _ ?_
    clear hK K
    refine wpAnyIn_done (by kernel_rfl) ?_ _
    simp only [Exit.then]
    go_wp2_with fail
    exact bodyPost_ret (v := itB (.slice x5 m5 c5)) (by simp [results, Tryd.results35, go_sem, i0, i1, i2]) rfl ⟨_, _, _, rfl, HE.out⟩
  · go_simp
    refine ⟨trivial, (callsIn_wide.2 HC.out).mono ?_⟩
    rintro e w3 ⟨x3, m3, c3, rfl, hb3, ⟨v3, hR3, hv3⟩, hg3⟩
    have hH3 := HX.out.2.1.far (by omega) hg3
    have hM3 := HX.out.2.2.1.kept hg3 (fun e => by injection e; omega)
    have hI3 := HX.out.2.2.2.kept hg3 (fun e => by injection e; omega)
    have hgw3 := grown_then' (grown_of R HX.out.1) hg3
    obtain ⟨_, y3, e3, rfl, _⟩ := id hv3
    have q0 : w3.cell? ⟨R, 0, none⟩ = some (.slice y3 r2.length e3) := cell_of_row _ _ 0 _ _ _ hR3
    have q1 : w3.cell? ⟨R, 1, none⟩ = some (.int .i64 d) := cell_of_row _ _ 1 _ _ _ hR3
    have q2 : w3.cell? ⟨R, 2, none⟩ = some (.map (some M)) := cell_of_row _ _ 2 _ _ _ hR3
    have hRead := fun (vv : Value) (hvv : ∃ y n e, vv = .slice y n e) => read_bytes B vv k x3 m3 c3 body d 1 M w3 hk ⟨by omega, by omega⟩ hvv hb3 (by omega) hM3 hH3
    have HR := Lib.hid hRead
    have H3 := Lib.hid (And.intro hR3 (And.intro hv3 (And.intro hI3 (And.intro hgw3 hg3))))
    clear hb3 hR3 hv3 hg3 hH3 hM3 hI3 hgw3 hRead
    refine hK _ _ ?_
    clear hK K
    refine wpAnyIn_ready (rs := [0]) (by kernel_rfl) (by simp) ?_
    refine AllReadyIn.cons rfl (fun K hK => ?_) (AllReadyIn.nil)
    go_simp
    refine hK _ _ ?_
    clear hK K
    refine wpAnyIn_ready (rs := [3]) (by kernel_rfl) (by simp) ?_
    refine AllReadyIn.cons rfl (fun K hK => ?_) (AllReadyIn.nil)
    go_simp
    refine ⟨trivial, (callsIn_wide.2 (HR.out (.slice y3 r2.length e3) ⟨_, _, _, rfl⟩)).mono ?_⟩
    rintro e w4 ⟨h4, he4⟩
    rw [if_pos hko] at he4
    obtain ⟨x5, m5, c5, rfl, hO5⟩ := he4
    have hI4 := H3.out.2.2.1.keep h4
    have i0 := cell_of_row w4 _ 0 _ _ _ hI4
    have i1 := cell_of_row w4 _ 1 _ _ _ hI4
    have i2 := cell_of_row w4 _ 2 _ _ _ hI4
    have f0 := frozen_of_row w4 _ 0 _ _ hI4
    have f1 := frozen_of_row w4 _ 1 _ _ hI4
    have f2 := frozen_of_row w4 _ 2 _ _ hI4
    have hG := grown_set' (grown_set' (grown_set' (grown_refl w4 w.heap.size) 0 (.bool false)) 1 (.slice x5 m5 c5)) 2 (.slice none 0 0)
    have hs3 : w.heap.size + 1 ≤ w3.heap.size := by have h1 := H3.out.2.2.2.2.size; have h2 := HX.out.2.2.2.lt; omega
    have HE := Lib.hid (show Ow _ w.heap.size (.slice x5 m5 c5) body ∧ (∃ v2, RB _ R v2 d M ∧ Bt B _ v2 r2) ∧ w.grownBy _ (some R) from ⟨(hO5.kept hG (fun r e => by cases e; omega)).mono (by omega), ⟨_, (H3.out.1.keep h4).kept hG (fun e => by injection e; omega), (H3.out.2.1.new h4).far hG (by omega)⟩, grown_above (grown_then H3.out.2.2.2.1 h4) hG (Nat.le_refl _)⟩)
    clear hI4 hG hO5 h4 q0 q1 q2 r0 r1 r2'
    refine hK _ _ ?_
    clear hK K
    refine wpAnyIn_ready (rs := [4]) (by kernel_rfl) (by simp) ?_
    refine AllReadyIn.cons rfl (fun K hK => ?_) (AllReadyIn.nil)
    go_simp
    refine hK _ _ ?_
    clear hK K
    refine wpAnyIn_done (by kernel_rfl) ?_ _
    simp only [Exit.then]
    go_wp2_with fail
    exact bodyPost_ret (v := itB (.slice x5 m5 c5)) (by simp [results, Tryd.results35, go_sem, i0, i1, i2]) rfl ⟨_, _, _, rfl, HE.out⟩
set_option maxRecDepth 100000 in
set_option maxHeartbeats 4000000 in
theorem first1_cut (B R : Nat) (v : Value) (l : List Nat) (d : Int) (M : Nat) (w : World) (hR : RB w R v d M) (hv : Bt B w v l) (hB : B ≤ R) (hH : HD w) (hgR : 0 < R) (hM : KM w M) (_hMR : M ≠ R) (_hl : l.length ≤ 4096) (hcs : cutS l = none) :
    Calls Tryd.prog 35 #[.pointer (some ⟨R, 0, none⟩)] w fun e w' => e = .panicked [{ v := .iface 28 (.int .i64 160), recovered := false }] ∧ w.grownBy w' (some R) := by
  obtain ⟨_, y, e, rfl, _⟩ := id hv
  have hW := balloc (Below.refl w.heap.size w) (.cells #[.bool false, .slice none 0 0, .slice none 0 0] 25)
  have hI := Blk.new w 25 #[.bool false, .slice none 0 0, .slice none 0 0]
  have hRl := hR.lt
  obtain ⟨W1, hW1⟩ : ∃ W1, w.alloc (.cells #[.bool false, .slice none 0 0, .slice none 0 0] 25) = W1 := ⟨_, rfl⟩
  rw [hW1] at hW hI
  have hd0 : Below W1.heap.size W1 W1.drew := (Below.refl _ _).drew
  have hWd := bstep hW hd0
  have hRd := hR.keep hWd
  have hvd := hv.new hWd
  have hHd := hH.keep hWd
  have hMd := hM.keep hWd
  have hId := hI.keep hd0
  have hC := cut_any B R _ l d M W1.drew hRd hvd hB hHd hgR
  rw [hcs] at hC
  have HC := Lib.hid (hC.mono (R' := fun e w' => e = .panicked [{ v := .iface 28 (.int .i64 160), recovered := false }] ∧ W1.drew.grownBy w' (some R)) (fun e w' h => ⟨h.2, h.1⟩))
  have r0 : W1.drew.cell? ⟨R, 0, none⟩ = some (.slice y l.length e) := cell_of_row _ _ 0 _ _ _ hRd
  have r1 : W1.drew.cell? ⟨R, 1, none⟩ = some (.int .i64 d) := cell_of_row _ _ 1 _ _ _ hRd
  have r2' : W1.drew.cell? ⟨R, 2, none⟩ = some (.map (some M)) := cell_of_row _ _ 2 _ _ _ hRd
  have HX := Lib.hid (And.intro hWd (And.intro hHd (And.intro hMd hId)))
  clear hC hR hv hH hM hW hI hd0 hWd hRd hvd hHd hMd hId hcs
  obtain ⟨N, hN⟩ : ∃ N, l.length = N := ⟨_, rfl⟩
  rw [hN] at r0
  clear hN
  go_enter Tryd.func35, Tryd.ntmps35
  go_wp2_with fail
  refine (wpIn_wide (n := 20)).1 (wpIn_region_any (by kernel_rfl) ?_)
  refine wpAnyIn_take (i := 1) (v := ?vq1) rfl rfl (by kernel_rfl) (by kernel_rfl) (by kernel_rfl) (fun _ _ _ h => h) ⟨Or.inl ⟨by rfl, ?yq1⟩, fun _ => rfl⟩ ?rq1
  case yq1 => (intro w; go_simp <;> with_reducible rfl)
  refine wpAnyIn_ready (rs := [0, 2]) (by kernel_rfl) (by simp) ?_
  refine AllReadyIn.cons rfl (fun K hK => ?_) (AllReadyIn.cons rfl (fun K hK => ?_) (AllReadyIn.nil))
  · go_simp
    refine hK _ _ ?_
    clear hK K
    refine wpAnyIn_ready (rs := [2]) (by kernel_rfl) (by simp) ?_
    refine AllReadyIn.cons rfl (fun K hK => ?_) (AllReadyIn.nil)
    go_simp
    refine ⟨trivial, (callsIn_wide.2 HC.out).mono ?_⟩
    rintro e w3 ⟨rfl, hg3⟩
    exact ⟨rfl, rfl, grown_then' (grown_of R HX.out.1) hg3⟩
  · go_simp
    refine ⟨trivial, (callsIn_wide.2 HC.out).mono ?_⟩
    rintro e w3 ⟨rfl, hg3⟩
    exact ⟨rfl, rfl, grown_then' (grown_of R HX.out.1) hg3⟩
set_option maxRecDepth 100000 in
set_option maxHeartbeats 4000000 in
theorem first1_kind (B R : Nat) (v : Value) (l : List Nat) (d : Int) (M : Nat) (k : Nat) (body r2 : List Nat) (w : World) (hR : RB w R v d M) (hv : Bt B w v l) (hB : B ≤ R) (hH : HD w) (hgR : 0 < R) (hM : KM w M) (hMR : M ≠ R) (hl : l.length ≤ 4096) (hcs : cutS l = some (k, body, r2)) (hk : k = 0 ∨ k = 1) (hko : koL body ≠ k) :
    Calls Tryd.prog 35 #[.pointer (some ⟨R, 0, none⟩)] w fun e w' => e = .panicked [{ v := .iface 28 (.int .i64 160), recovered := false }] ∧ w.grownBy w' (some R) := by
  obtain ⟨_, y, e, rfl, _⟩ := id hv
  have hW := balloc (Below.refl w.heap.size w) (.cells #[.bool false, .slice none 0 0, .slice none 0 0] 25)
  have hI := Blk.new w 25 #[.bool false, .slice none 0 0, .slice none 0 0]
  have hRl := hR.lt
  obtain ⟨W1, hW1⟩ : ∃ W1, w.alloc (.cells #[.bool false, .slice none 0 0, .slice none 0 0] 25) = W1 := ⟨_, rfl⟩
  rw [hW1] at hW hI
  have hd0 : Below W1.heap.size W1 W1.drew := (Below.refl _ _).drew
  have hWd := bstep hW hd0
  have hRd := hR.keep hWd
  have hvd := hv.new hWd
  have hHd := hH.keep hWd
  have hMd := hM.keep hWd
  have hId := hI.keep hd0
  have hC := cut_any B R _ l d M W1.drew hRd hvd hB hHd hgR
  rw [hcs] at hC
  have HC := Lib.hid (hC.mono (R' := fun e w' => ∃ x m c, e = .returned (.agg #[.int .i64 k, .slice x m c]) ∧ Bt B w' (.slice x m c) body ∧ (∃ v2, RB w' R v2 d M ∧ Bt B w' v2 r2) ∧ W1.drew.grownBy w' (some R)) (fun e w' h => by obtain ⟨x, m, c, h1, h2, h3⟩ := h.2; exact ⟨x, m, c, h1, h2, h3, h.1⟩))
  have hbl := (cut_len hcs).1
  have r0 : W1.drew.cell? ⟨R, 0, none⟩ = some (.slice y l.length e) := cell_of_row _ _ 0 _ _ _ hRd
  have r1 : W1.drew.cell? ⟨R, 1, none⟩ = some (.int .i64 d) := cell_of_row _ _ 1 _ _ _ hRd
  have r2' : W1.drew.cell? ⟨R, 2, none⟩ = some (.map (some M)) := cell_of_row _ _ 2 _ _ _ hRd
  have HX := Lib.hid (And.intro hWd (And.intro hHd (And.intro hMd hId)))
  clear hC hR hv hH hM hW hI hd0 hWd hRd hvd hHd hMd hId hcs
  obtain ⟨N, hN⟩ : ∃ N, l.length = N := ⟨_, rfl⟩
  rw [hN] at r0
  clear hN
  go_enter Tryd.func35, Tryd.ntmps35
  go_wp2_with fail
  refine (wpIn_wide (n := 20)).1 (wpIn_region_any (by kernel_rfl) ?_)
  refine wpAnyIn_take (i := 1) (v := ?vq1) rfl rfl (by kernel_rfl) (by kernel_rfl) (by kernel_rfl) (fun _ _ _ h => h) ⟨Or.inl ⟨by rfl, ?yq1⟩, fun _ => rfl⟩ ?rq1
  case yq1 => (intro w; go_simp <;> with_reducible rfl)
  refine wpAnyIn_ready (rs := [0, 2]) (by kernel_rfl) (by simp) ?_
  refine AllReadyIn.cons rfl (fun K hK => ?_) (AllReadyIn.cons rfl (fun K hK => ?_) (AllReadyIn.nil))
  · go_simp
    refine hK _ _ ?_
    clear hK K
    refine wpAnyIn_ready (rs := [2]) (by kernel_rfl) (by simp) ?_
    refine AllReadyIn.cons rfl (fun K hK => ?_) (AllReadyIn.nil)
    go_simp
    refine ⟨trivial, (callsIn_wide.2 HC.out).mono ?_⟩
    rintro e w3 ⟨x3, m3, c3, rfl, hb3, ⟨v3, hR3, hv3⟩, hg3⟩
    have hH3 := HX.out.2.1.far (by omega) hg3
    have hM3 := HX.out.2.2.1.kept hg3 (fun e => by injection e; omega)
    have hI3 := HX.out.2.2.2.kept hg3 (fun e => by injection e; omega)
    have hgw3 := grown_then' (grown_of R HX.out.1) hg3
    obtain ⟨_, y3, e3, rfl, _⟩ := id hv3
    have q0 : w3.cell? ⟨R, 0, none⟩ = some (.slice y3 r2.length e3) := cell_of_row _ _ 0 _ _ _ hR3
    have q1 : w3.cell? ⟨R, 1, none⟩ = some (.int .i64 d) := cell_of_row _ _ 1 _ _ _ hR3
    have q2 : w3.cell? ⟨R, 2, none⟩ = some (.map (some M)) := cell_of_row _ _ 2 _ _ _ hR3
    have hRead := fun (vv : Value) (hvv : ∃ y n e, vv = .slice y n e) => read_bytes B vv k x3 m3 c3 body d 1 M w3 hk ⟨by omega, by omega⟩ hvv hb3 (by omega) hM3 hH3
    have HR := Lib.hid hRead
    have H3 := Lib.hid (And.intro hR3 (And.intro hv3 (And.intro hI3 (And.intro hgw3 hg3))))
    clear hb3 hR3 hv3 hg3 hH3 hM3 hI3 hgw3 hRead
    refine hK _ _ ?_
    clear hK K
    refine wpAnyIn_ready (rs := [3]) (by kernel_rfl) (by simp) ?_
    refine AllReadyIn.cons rfl (fun K hK => ?_) (AllReadyIn.nil)
    go_simp
    refine ⟨trivial, (callsIn_wide.2 (HR.out (.slice y N e) ⟨_, _, _, rfl⟩)).mono ?_⟩
    rintro e w4 ⟨h4, he4⟩
    rw [if_neg hko] at he4
    subst he4
    exact ⟨rfl, rfl, grown_then H3.out.2.2.2.1 h4⟩
  · go_simp
    refine ⟨trivial, (callsIn_wide.2 HC.out).mono ?_⟩
    rintro e w3 ⟨x3, m3, c3, rfl, hb3, ⟨v3, hR3, hv3⟩, hg3⟩
    have hH3 := HX.out.2.1.far (by omega) hg3
    have hM3 := HX.out.2.2.1.kept hg3 (fun e => by injection e; omega)
    have hI3 := HX.out.2.2.2.kept hg3 (fun e => by injection e; omega)
    have hgw3 := grown_then' (grown_of R HX.out.1) hg3
    obtain ⟨_, y3, e3, rfl, _⟩ := id hv3
    have q0 : w3.cell? ⟨R, 0, none⟩ = some (.slice y3 r2.length e3) := cell_of_row _ _ 0 _ _ _ hR3
    have q1 : w3.cell? ⟨R, 1, none⟩ = some (.int .i64 d) := cell_of_row _ _ 1 _ _ _ hR3
    have q2 : w3.cell? ⟨R, 2, none⟩ = some (.map (some M)) := cell_of_row _ _ 2 _ _ _ hR3
    have hRead := fun (vv : Value) (hvv : ∃ y n e, vv = .slice y n e) => read_bytes B vv k x3 m3 c3 body d 1 M w3 hk ⟨by omega, by omega⟩ hvv hb3 (by omega) hM3 hH3
    have HR := Lib.hid hRead
    have H3 := Lib.hid (And.intro hR3 (And.intro hv3 (And.intro hI3 (And.intro hgw3 hg3))))
    clear hb3 hR3 hv3 hg3 hH3 hM3 hI3 hgw3 hRead
    refine hK _ _ ?_
    clear hK K
    refine wpAnyIn_ready (rs := [0]) (by kernel_rfl) (by simp) ?_
    refine AllReadyIn.cons rfl (fun K hK => ?_) (AllReadyIn.nil)
    go_simp
    refine hK _ _ ?_
    clear hK K
    refine wpAnyIn_ready (rs := [3]) (by kernel_rfl) (by simp) ?_
    refine AllReadyIn.cons rfl (fun K hK => ?_) (AllReadyIn.nil)
    go_simp
    refine ⟨trivial, (callsIn_wide.2 (HR.out (.slice y3 r2.length e3) ⟨_, _, _, rfl⟩)).mono ?_⟩
    rintro e w4 ⟨h4, he4⟩
    rw [if_neg hko] at he4
    subst he4
    exact ⟨rfl, rfl, grown_then H3.out.2.2.2.1 h4⟩
end Go.Proofs.YtjmfnafbjfceoaaDoor
