/- item: First and Decode, of bytes that begin with an item of bytes, or with none. -/
import Derived.Test.YtjmfnafbjfceoaaDoorJi
import Derived.RegionTactic
namespace Go.Proofs.YtjmfnafbjfceoaaDoor
open Go.RowKit Go.Shelf
attribute [local irreducible] lb wdG byA byC heL nuL
set_option maxRecDepth 100000 in
set_option maxHeartbeats 2000000 in
theorem first_long (B : Nat) (v : Value) (l : List Nat) (w : World) (hv : Bt B w v l) (hl : 4096 < l.length) :
    Calls Tryd.prog 16 #[v] w fun e w' => e = .returned (.tuple #[itW false none 0 0 none 0 0, .int .i64 0, .int .i64 3]) ∧ Below w.heap.size w w' := by
  obtain ⟨_, x, c, rfl, _⟩ := hv
  have g : (4096 : Int) < (l.length : Int) := by omega
  have hW := balloc (Below.refl w.heap.size w) (.cells #[.bool false, .slice none 0 0, .slice none 0 0] 25)
  obtain ⟨q, hq⟩ : ∃ q, l.length = q := ⟨_, rfl⟩
  rw [hq] at g ⊢
  clear hq hl
  go_enter Tryd.func16, Tryd.ntmps16
  go_wp2_with fail
  exact bodyPost_ret (v := .tuple #[itW false none 0 0 none 0 0, .int .i64 0, .int .i64 3]) (by simp [results, Tryd.results16, go_sem]) rfl ⟨rfl, hW⟩

set_option maxRecDepth 100000 in
set_option maxHeartbeats 4000000 in
theorem first_ret (B : Nat) (v : Value) (l : List Nat) (k : Nat) (body r2 : List Nat) (w : World) (hv : Bt B w v l) (hB : B ≤ w.heap.size) (hH : HD w) (hl : l.length ≤ 4096) (hcs : cutS l = some (k, body, r2)) (hk : k = 0 ∨ k = 1) (hko : koL body = k) :
    Calls Tryd.prog 16 #[v] w fun e w' => ∃ x m c, e = .returned (.tuple #[itB (.slice x m c), .int .i64 (l.length - r2.length : Nat), .int .i64 0]) ∧ Ow w' w.heap.size (.slice x m c) body ∧ Below w.heap.size w w' := by
  have hmf : ∀ (fn : Fn) (first cap : Array Value) (w : World), (Instr.makeFunc fn first cap).run Tryd.prog w = .ok (.func fn first cap) w := fun _ _ _ _ => rfl
  obtain ⟨_, x, c, rfl, _⟩ := id hv
  have g : ¬ (4096 : Int) < (l.length : Int) := by omega
  have hA := Blk.new w 25 #[.bool false, .slice none 0 0, .slice none 0 0]
  have hW := balloc (Below.refl w.heap.size w) (.cells #[.bool false, .slice none 0 0, .slice none 0 0] 25)
  have HX := Lib.hid (And.intro hA (And.intro hW (And.intro (hv.new hW) (hH.keep hW))))
  have hgl := hH.lt
  have hrl := (cut_len hcs).2
  have hsub : IntKind.i64.wrap ((l.length : Int) - (r2.length : Int)) = ((l.length - r2.length : Nat) : Int) := (IntWalk.i64_in _ (by omega)).trans (by omega)
  clear hA hW hv hH
  obtain ⟨q, hq⟩ : ∃ q, l.length = q := ⟨_, rfl⟩
  have HQ := Lib.hid hq
  rw [hq] at g hl HX hrl hsub ⊢
  clear hq
  go_enter Tryd.func16, Tryd.ntmps16
  go_wp2_with fail
  refine (kinds_any _).mono ?_
  rintro e w1 ⟨M, rfl, hMw, hM, h1⟩
  obtain ⟨hA, hW, hb, hH⟩ := HX.out
  have hst := balloc (Below.refl w1.heap.size w1) (.cells #[.slice x q c, .int .i64 0, .map (some M)] 68)
  have hRb := Blk.new w1 68 #[.slice x q c, .int .i64 0, .map (some M)]
  have hA1 := (hA.keep h1).keep hst
  have hW1 := bstep (bstep hW h1) hst
  have hb1 := (hb.new h1).new hst
  have hH1 := (hH.keep h1).keep hst
  have hM1 := hM.keep hst
  have hMl : M < w1.heap.size := (Array.getElem?_eq_some_iff.1 hM).1
  have hwl : w.heap.size < w1.heap.size := by have := (hA.keep h1).lt; exact this
  obtain ⟨W2, hW2⟩ : ∃ W2, w1.alloc (.cells #[.slice x q c, .int .i64 0, .map (some M)] 68) = W2 := ⟨_, rfl⟩
  rw [hW2] at hst hRb hA1 hW1 hb1 hH1 hM1
  have hRl : w1.heap.size < W2.heap.size := hRb.lt
  obtain ⟨R, hR⟩ : ∃ R, w1.heap.size = R := ⟨_, rfl⟩
  rw [hR] at hRb hRl hMl hwl
  have hRB : RB W2 R (.slice x q c) 0 M := hRb
  have hAtt := attempti_ret R W2 hRl (fun v X => (∃ x m c, v = itB (.slice x m c) ∧ Ow X (W2.heap.size + 2) (.slice x m c) body) ∧ ∃ v2, RB X R v2 0 M ∧ Bt B X v2 r2)
    (fun wr hwr hsz => ((first1_ret B R _ l 0 M k body r2 wr (hRB.keep hwr) (hb1.new hwr) (by omega) (hH1.keep hwr) (by omega) (hM1.keep hwr) (by omega) (by rw [HQ.out]; exact hl) hcs hk hko).mono (by
      rintro e w' ⟨x, m, c, rfl, hO, hr, hg⟩
      exact ⟨false, x, m, c, none, 0, 0, rfl, ⟨⟨x, m, c, rfl, hO.mono hsz⟩, hr⟩, hg⟩)))
    (fun v X Y g h hg he => by
      obtain ⟨⟨x, m, c, hv, hO⟩, v2, h2, h3⟩ := h
      have hge : W2.heap.size ≤ g ∧ g < W2.heap.size + 2 := by omega
      exact ⟨⟨x, m, c, hv, hO.kept hg (fun r e => by cases e; omega)⟩, v2, h2.kept hg (fun e => by injection e; omega), h3.far hg (by omega)⟩)
  have HAT := Lib.hid hAtt
  have H2 := Lib.hid (And.intro hA1 (And.intro hW1 hRl))
  clear hAtt hA hW hb hH hst hRb hA1 hW1 hb1 hH1 hM1 hRB hM h1 HX
  go_wp2_with fail
  refine HAT.out.mono ?_
  rintro e w3 ⟨b, x3, m3, c3, y3, n3, d3, rfl, ⟨⟨x4, m4, c4, heq, hO⟩, v2, hRB, hv2⟩, hg⟩
  cases heq
  have hst := balloc (Below.refl w3.heap.size w3) (.cells #[.bool false, .slice x3 m3 c3, .slice none 0 0] 25)
  have hT := Blk.new w3 25 #[.bool false, .slice x3 m3 c3, .slice none 0 0]
  have hA3 := (H2.out.1.kept hg (fun e => by injection e; omega)).keep hst
  have hR3 := hRB.keep hst
  have hgw : Below w.heap.size w w3 := H2.out.2.1.grown hg H2.out.2.1.size (fun k e => by cases e; omega)
  have hW3 := bstep hgw hst
  have hO3 := (hO.new hst).mono (show w.heap.size + 1 ≤ W2.heap.size + 2 by omega)
  obtain ⟨_, y2, e2, rfl, _⟩ := hv2
  obtain ⟨p, hp⟩ : ∃ p, r2.length = p := ⟨_, rfl⟩
  rw [hp] at hsub hrl hR3
  have hHP := Lib.hid hp
  have H3 := Lib.hid (And.intro hT (And.intro hA3 (And.intro hR3 (And.intro hW3 hO3))))
  clear hst hT hA3 hR3 hgw hW3 hO3 hO hRB hg H2 HAT hp hR hW2
  clear hB hcs hk hko hrl
  go_wp2_with fail
  have hW4 : w3.alloc (.cells #[.bool false, .slice x3 m3 c3, .slice none 0 0] 25) = w3.alloc (.cells #[.bool false, .slice x3 m3 c3, .slice none 0 0] 25) := rfl
  obtain ⟨W4, hWW⟩ : ∃ W4, w3.alloc (.cells #[.bool false, .slice x3 m3 c3, .slice none 0 0] 25) = W4 := ⟨_, rfl⟩
  rw [hWW] at H3 ⊢
  clear hWW hW4
  generalize w3.heap.size = gt at H3 ⊢
  obtain ⟨hT, hA, hRR, hW, hO⟩ := H3.out
  have hdr : Below W4.heap.size W4 W4.drew := (Below.refl _ _).drew
  have t0 : W4.drew.cell? ⟨gt, 0, none⟩ = some (.bool false) := cell_of_row _ _ 0 _ _ _ (hT.keep hdr)
  have t1 : W4.drew.cell? ⟨gt, 1, none⟩ = some (.slice x3 m3 c3) := cell_of_row _ _ 1 _ _ _ (hT.keep hdr)
  have t2 : W4.drew.cell? ⟨gt, 2, none⟩ = some (.slice none 0 0) := cell_of_row _ _ 2 _ _ _ (hT.keep hdr)
  have u0 : W4.drew.cell? ⟨R, 0, none⟩ = some (.slice y2 p e2) := cell_of_row _ _ 0 _ _ _ (hRR.keep hdr)
  have a0 : W4.drew.cell? ⟨w.heap.size, 0, none⟩ = some (.bool false) := cell_of_row _ _ 0 _ _ _ (hA.keep hdr)
  have a1 : W4.drew.cell? ⟨w.heap.size, 1, none⟩ = some (.slice none 0 0) := cell_of_row _ _ 1 _ _ _ (hA.keep hdr)
  have a2 : W4.drew.cell? ⟨w.heap.size, 2, none⟩ = some (.slice none 0 0) := cell_of_row _ _ 2 _ _ _ (hA.keep hdr)
  have f0 : W4.drew.frozen? ⟨w.heap.size, 0, none⟩ = false := frozen_of_row _ _ 0 _ _ (hA.keep hdr)
  have f1 : W4.drew.frozen? ⟨w.heap.size, 1, none⟩ = false := frozen_of_row _ _ 1 _ _ (hA.keep hdr)
  have f2 : W4.drew.frozen? ⟨w.heap.size, 2, none⟩ = false := frozen_of_row _ _ 2 _ _ (hA.keep hdr)
  have v0 : W4.cell? ⟨R, 0, none⟩ = some (.slice y2 p e2) := cell_of_row _ _ 0 _ _ _ hRR
  have s0 : W4.cell? ⟨gt, 0, none⟩ = some (.bool false) := cell_of_row _ _ 0 _ _ _ hT
  have s1 : W4.cell? ⟨gt, 1, none⟩ = some (.slice x3 m3 c3) := cell_of_row _ _ 1 _ _ _ hT
  have s2 : W4.cell? ⟨gt, 2, none⟩ = some (.slice none 0 0) := cell_of_row _ _ 2 _ _ _ hT
  have b0 : W4.cell? ⟨w.heap.size, 0, none⟩ = some (.bool false) := cell_of_row _ _ 0 _ _ _ hA
  have g0 : W4.frozen? ⟨w.heap.size, 0, none⟩ = false := frozen_of_row _ _ 0 _ _ hA
  have b1 : W4.cell? ⟨w.heap.size, 1, none⟩ = some (.slice none 0 0) := cell_of_row _ _ 1 _ _ _ hA
  have g1 : W4.frozen? ⟨w.heap.size, 1, none⟩ = false := frozen_of_row _ _ 1 _ _ hA
  have b2 : W4.cell? ⟨w.heap.size, 2, none⟩ = some (.slice none 0 0) := cell_of_row _ _ 2 _ _ _ hA
  have g2 : W4.frozen? ⟨w.heap.size, 2, none⟩ = false := frozen_of_row _ _ 2 _ _ hA
  have hG := grown_set' (grown_set' (grown_set' (grown_refl W4.drew w.heap.size) 0 (.bool false)) 1 (.slice x3 m3 c3)) 2 (.slice none 0 0)
  have HE := Lib.hid (And.intro (((hO.new hdr).kept hG (fun r e => by cases e; omega)).mono (show w.heap.size ≤ w.heap.size + 1 by omega)) (step_world (bstep hW hdr) hG (Nat.le_refl _) (by omega)))
  clear hT hA hRR hW hO hdr hG H3
  go_region
  all_goals
    go_wp2_with fail
    exact bodyPost_ret (v := .tuple #[itB (.slice x3 m3 c3), .int .i64 ((q - p : Nat) : Int), .int .i64 0]) (by simp [results, Tryd.results16, go_sem, b0, b1, b2]) rfl ⟨_, _, _, by rw [hHP.out], HE.out⟩

set_option maxRecDepth 100000 in
set_option maxHeartbeats 4000000 in
theorem first_err (B : Nat) (v : Value) (l : List Nat) (w : World) (hv : Bt B w v l) (hB : B ≤ w.heap.size) (hH : HD w) (hl : l.length ≤ 4096)
    (hcs : cutS l = none ∨ ∃ k body r2, cutS l = some (k, body, r2) ∧ (k = 0 ∨ k = 1) ∧ koL body ≠ k) :
    Calls Tryd.prog 16 #[v] w fun e w' => e = .returned (.tuple #[itW false none 0 0 none 0 0, .int .i64 0, .int .i64 160]) ∧ Below w.heap.size w w' := by
  have hmf : ∀ (fn : Fn) (first cap : Array Value) (w : World), (Instr.makeFunc fn first cap).run Tryd.prog w = .ok (.func fn first cap) w := fun _ _ _ _ => rfl
  obtain ⟨_, x, c, rfl, _⟩ := id hv
  have g : ¬ (4096 : Int) < (l.length : Int) := by omega
  have hA := Blk.new w 25 #[.bool false, .slice none 0 0, .slice none 0 0]
  have hW := balloc (Below.refl w.heap.size w) (.cells #[.bool false, .slice none 0 0, .slice none 0 0] 25)
  have HX := Lib.hid (And.intro hA (And.intro hW (And.intro (hv.new hW) (hH.keep hW))))
  have hgl := hH.lt
  clear hA hW hv hH
  obtain ⟨q, hq⟩ : ∃ q, l.length = q := ⟨_, rfl⟩
  have HQ := Lib.hid hq
  have HCS := Lib.hid hcs
  rw [hq] at g hl HX ⊢
  clear hq hcs
  go_enter Tryd.func16, Tryd.ntmps16
  go_wp2_with fail
  refine (kinds_any _).mono ?_
  rintro e w1 ⟨M, rfl, hMw, hM, h1⟩
  obtain ⟨hA, hW, hb, hH⟩ := HX.out
  have hst := balloc (Below.refl w1.heap.size w1) (.cells #[.slice x q c, .int .i64 0, .map (some M)] 68)
  have hRb := Blk.new w1 68 #[.slice x q c, .int .i64 0, .map (some M)]
  have hA1 := (hA.keep h1).keep hst
  have hW1 := bstep (bstep hW h1) hst
  have hb1 := (hb.new h1).new hst
  have hH1 := (hH.keep h1).keep hst
  have hM1 := hM.keep hst
  have hMl : M < w1.heap.size := (Array.getElem?_eq_some_iff.1 hM).1
  have hwl : w.heap.size < w1.heap.size := by have := (hA.keep h1).lt; exact this
  obtain ⟨W2, hW2⟩ : ∃ W2, w1.alloc (.cells #[.slice x q c, .int .i64 0, .map (some M)] 68) = W2 := ⟨_, rfl⟩
  rw [hW2] at hst hRb hA1 hW1 hb1 hH1 hM1
  have hRl : w1.heap.size < W2.heap.size := hRb.lt
  obtain ⟨R, hR⟩ : ∃ R, w1.heap.size = R := ⟨_, rfl⟩
  rw [hR] at hRb hRl hMl hwl
  have hRB : RB W2 R (.slice x q c) 0 M := hRb
  have hAtt := attempti_gives R 160 W2 hRl (fun wr hwr hsz => by
    rcases HCS.out with h | ⟨k, body, r2, h1, h2, h3⟩
    · exact first1_cut B R _ l 0 M wr (hRB.keep hwr) (hb1.new hwr) (by omega) (hH1.keep hwr) (by omega) (hM1.keep hwr) (by omega) (by rw [HQ.out]; exact hl) h
    · exact first1_kind B R _ l 0 M k body r2 wr (hRB.keep hwr) (hb1.new hwr) (by omega) (hH1.keep hwr) (by omega) (hM1.keep hwr) (by omega) (by rw [HQ.out]; exact hl) h1 h2 h3)
  have HAT := Lib.hid hAtt
  have H2 := Lib.hid (And.intro hA1 (And.intro hW1 hRl))
  clear hAtt hA hW hb hH hst hRb hA1 hW1 hb1 hH1 hM1 hRB hM h1 HX
  go_wp2_with fail
  refine HAT.out.mono ?_
  rintro e w3 ⟨rfl, hg⟩
  have hst := balloc (Below.refl w3.heap.size w3) (.cells #[.bool false, .slice none 0 0, .slice none 0 0] 25)
  have hA3 := (H2.out.1.kept hg (fun e => by injection e; omega)).keep hst
  have hgw : Below w.heap.size w w3 := H2.out.2.1.grown hg H2.out.2.1.size (fun k e => by cases e; omega)
  have hW3 := bstep hgw hst
  have a0 := cell_of_row _ _ 0 _ _ _ hA3
  have a1 := cell_of_row _ _ 1 _ _ _ hA3
  have a2 := cell_of_row _ _ 2 _ _ _ hA3
  have f0 := frozen_of_row _ _ 0 _ _ hA3
  have f1 := frozen_of_row _ _ 1 _ _ hA3
  have f2 := frozen_of_row _ _ 2 _ _ hA3
  have hG := grown_set' (grown_set' (grown_set' (grown_refl (w3.alloc (.cells #[.bool false, .slice none 0 0, .slice none 0 0] 25)) w.heap.size) 0 (.bool false)) 1 (.slice none 0 0)) 2 (.slice none 0 0)
  have HE := Lib.hid (step_world hW3 hG (Nat.le_refl _) (by omega))
  clear hst hA3 hgw hW3 hG hg H2 HAT hR hW2
  go_wp2_with fail
  exact bodyPost_ret (v := .tuple #[itW false none 0 0 none 0 0, .int .i64 0, .int .i64 160]) (by simp [results, Tryd.results16, go_sem, a0, a1, a2]) rfl ⟨rfl, HE.out⟩
end Go.Proofs.YtjmfnafbjfceoaaDoor
