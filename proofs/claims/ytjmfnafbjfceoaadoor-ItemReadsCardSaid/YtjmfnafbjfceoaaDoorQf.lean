/- Texts laid into one: Qf. -/
import Derived.Test.YtjmfnafbjfceoaaDoorQe
import Derived.Lib.SmallJoins
import Derived.Test.YtjmfnafbjfceoaaDoorWo
import Derived.Lib.LaidTab
/- item's law: Same of items of bytes; the reference's reading of one byte; the chapter's list. -/
namespace Go.Proofs.YtjmfnafbjfceoaaDoor
open Go.RowKit Go.Shelf
attribute [local irreducible] lb wdG byA byC heL nuL
set_option maxRecDepth 100000 in
set_option maxHeartbeats 4000000 in
theorem rsame_bytes (B C : Nat) (v u : Value) (l m : List Nat) (w : World) (hv : Bt B w v l) (hu : Bt C w u m) (hl : l.length ≤ 100000) (hm : m.length ≤ 100000) :
    Calls Tryd.prog 14 #[itB v, itB u] w fun e w' => e = .returned (.bool (decide (l = m))) ∧ Below w.heap.size w w' := by
  obtain ⟨_, x, c, rfl, _⟩ := id hv
  obtain ⟨_, y, d, rfl, _⟩ := id hu
  have hW := balloc (balloc (Below.refl w.heap.size w) (.cells #[.bool false, .slice x l.length c, .slice none 0 0] 25)) (.cells #[.bool false, .slice y m.length d, .slice none 0 0] 25)
  have h1 := conv_bytes B _ l _ (hv.new hW) hl
  have h2 := conv_bytes C _ m _ (hu.new hW) hm
  have he : ((toS l).toList == (toS m).toList) = decide (l = m) := by
    rw [Bool.eq_iff_iff, beq_iff_eq, decide_eq_true_iff, toS_list, toS_list]
    exact ⟨fun h => toS_inj hv.1 hu.1 (by unfold toS; rw [h]), fun h => by rw [h]⟩
  have HW := Lib.hid hW
  clear hv hu hW
  obtain ⟨q, hq⟩ : ∃ q, decide (l = m) = q := ⟨_, rfl⟩
  rw [hq] at he ⊢
  generalize toS l = s1 at h1 he
  generalize toS m = s2 at h2 he
  obtain ⟨ll, hll⟩ : ∃ ll, l.length = ll := ⟨_, rfl⟩
  obtain ⟨ml, hml⟩ : ∃ ml, m.length = ml := ⟨_, rfl⟩
  rw [hll, hml] at h1 h2 HW ⊢
  clear hq hll hml hl hm
  cases q with
  | true =>
    have he2 : s1.toList = s2.toList := by simpa using he
    clear he
    go_enter Tryd.func14, Tryd.ntmps14
    go_wp2_with fail
    refine wp_loop_rounds 1 ?_
    rw [rounds_succ]; go_wp2_with fail
    go_ret
    exact ⟨rfl, HW.out⟩
  | false =>
    have he2 : ¬ s1.toList = s2.toList := by simpa using he
    clear he
    go_enter Tryd.func14, Tryd.ntmps14
    go_wp2_with fail
    go_ret
    exact ⟨rfl, HW.out⟩

theorem num_any (n : Int) (w : World) : Calls Tryd.prog 12 #[.int .i64 n] w fun e w' => e = .returned (.int .i64 n) ∧ w = w' := by
  go_enter Tryd.func12, Tryd.ntmps12
  go_wp2_with fail
  go_ret
  exact ⟨rfl, rfl⟩

set_option maxRecDepth 100000 in
set_option maxHeartbeats 4000000 in
/-- The reference's read of bytes that begin with one below the heads. -/
theorem rread_alone (B : Nat) (v : Value) (f : Nat) (r : List Nat) (w : World) (hv : Bt B w v (f :: r)) (hf : f < 128) :
    Calls Tryd.prog 38 #[v, .int .i64 8] w fun e w' => ∃ x c, e = .returned (.tuple #[itB (.slice x 1 c), .int .i64 1, .bool true]) ∧ Below w.heap.size w w' := by
  obtain ⟨_, x, c, rfl, _, _, h5⟩ := hv
  rcases h5 with ⟨_, h, _⟩ | ⟨b, o, rfl, hb, hc⟩
  · cases h
  · have c0 : w.cell? ⟨b, o, none⟩ = some (.int .u8 (f : Nat)) := by have := hc 0 f rfl; simpa using this
    have hbl := (hb (by simp)).2
    have hW := balloc (Below.refl w.heap.size w) (.cells #[.bool false, .slice none 0 0, .slice none 0 0] 25)
    have c1 := (hW.cell (p := ⟨b, o, none⟩) hbl).trans c0
    have g0 : (f : Int) < 128 := by omega
    have gl : ((r.length + 1 : Nat) : Int) = (r.length : Int) + 1 := by omega
    obtain ⟨q, hq⟩ : ∃ q, (f :: r).length = q := ⟨_, rfl⟩
    have hq0 : 0 < q := by rw [← hq]; simp
    have g1 : ((q : Int) == 0) = false := by simp; omega
    have g2 : (0 : Int) < (q : Int) := by omega
    rw [hq]
    have HW := Lib.hid hW
    clear hW hq hc hb gl
    go_enter Tryd.func38, Tryd.ntmps38
    go_wp2_with fail
    exact bodyPost_ret (v := .tuple #[itB (.slice (some ⟨w.heap.size + 1, 0, none⟩) 1 1), .int .i64 1, .bool true]) (by simp [results, Tryd.results38, go_sem]) rfl ⟨_, _, rfl, balloc (balloc (Below.refl _ _) _) _⟩

set_option maxRecDepth 100000 in
set_option maxHeartbeats 4000000 in
theorem rfirst_long (x : Option Addr) (n c : Nat) (hn : 4096 < n) (w : World) :
    Calls Tryd.prog 18 #[.slice x n c] w fun e w' => e = .returned (.tuple #[itW false none 0 0 none 0 0, .int .i64 0, .int .i64 3]) ∧ Below w.heap.size w w' := by
  have g : (4096 : Int) < (n : Int) := by omega
  have hW := balloc (Below.refl w.heap.size w) (.cells #[.bool false, .slice none 0 0, .slice none 0 0] 25)
  go_enter Tryd.func18, Tryd.ntmps18
  go_wp2_with fail
  exact bodyPost_ret (v := .tuple #[itW false none 0 0 none 0 0, .int .i64 0, .int .i64 3]) (by simp [results, Tryd.results18, go_sem]) rfl ⟨rfl, hW⟩
set_option maxRecDepth 100000 in
set_option maxHeartbeats 4000000 in
theorem rfirst_alone (B : Nat) (v : Value) (f : Nat) (r : List Nat) (w : World) (hv : Bt B w v (f :: r)) (hf : f < 128) (hl : (f :: r).length ≤ 4096) :
    Calls Tryd.prog 18 #[v] w fun e w' => ∃ x c, e = .returned (.tuple #[itB (.slice x 1 c), .int .i64 1, .int .i64 0]) ∧ Below w.heap.size w w' := by
  have hA := Blk.new w 25 #[.bool false, .slice none 0 0, .slice none 0 0]
  have hW := balloc (Below.refl w.heap.size w) (.cells #[.bool false, .slice none 0 0, .slice none 0 0] 25)
  have hC := Lib.hid (rread_alone B v f r _ (hv.new hW) hf)
  obtain ⟨_, x, c, rfl, _⟩ := hv
  have g : ¬ (4096 : Int) < ((f :: r).length : Int) := by omega
  have HX := Lib.hid (And.intro hA hW)
  obtain ⟨q, hq⟩ : ∃ q, (f :: r).length = q := ⟨_, rfl⟩
  rw [hq] at g hC ⊢
  clear hA hW hq hl
  go_enter Tryd.func18, Tryd.ntmps18
  go_wp2_with fail
  refine hC.out.mono ?_
  rintro e w1 ⟨x1, c1, rfl, h1⟩
  have hst := balloc (Below.refl w1.heap.size w1) (.cells #[.bool false, .slice x1 1 c1, .slice none 0 0] 25)
  have hT := Blk.new w1 25 #[.bool false, .slice x1 1 c1, .slice none 0 0]
  have hA1 := (HX.out.1.keep h1).keep hst
  have hW1 := bstep (bstep HX.out.2 h1) hst
  have a0 := cell_of_row _ _ 0 _ _ _ hA1
  have a1 := cell_of_row _ _ 1 _ _ _ hA1
  have a2 := cell_of_row _ _ 2 _ _ _ hA1
  have f0 := frozen_of_row _ _ 0 _ _ hA1
  have f1 := frozen_of_row _ _ 1 _ _ hA1
  have f2 := frozen_of_row _ _ 2 _ _ hA1
  have hG := grown_set' (grown_set' (grown_set' (grown_refl (w1.alloc (.cells #[.bool false, .slice x1 1 c1, .slice none 0 0] 25)) w.heap.size) 0 (.bool false)) 1 (.slice x1 1 c1)) 2 (.slice none 0 0)
  have HE := Lib.hid (step_world hW1 hG (Nat.le_refl _) (by omega))
  clear hst hT hA1 hW1 hG h1 HX hC
  go_wp2_with fail
  exact bodyPost_ret (v := .tuple #[itB (.slice x1 1 c1), .int .i64 1, .int .i64 0]) (by simp [results, Tryd.results18, go_sem, a0, a1, a2]) rfl ⟨_, _, rfl, HE.out⟩

set_option maxRecDepth 100000 in
set_option maxHeartbeats 4000000 in
theorem rdecode_not (no : Nat) (n : Nat) (y : Option Addr) (q e : Nat) (w : World) (hno : no ≠ 0 ∨ n ≠ q)
    (hF : ∀ X, Below w.heap.size w X → Calls Tryd.prog 18 #[.slice y q e] X fun e w' => ∃ b x1 m1 c1 x2 m2 c2, e = .returned (.tuple #[itW b x1 m1 c1 x2 m2 c2, .int .i64 n, .int .i64 no]) ∧ Below X.heap.size X w') :
    Calls Tryd.prog 17 #[.slice y q e] w fun e w' => e = .returned (.tuple #[itW false none 0 0 none 0 0, .int .i64 (if no = 0 then 160 else no : Nat)]) ∧ Below w.heap.size w w' := by
  have hA := Blk.new w 25 #[.bool false, .slice none 0 0, .slice none 0 0]
  have hW := balloc (Below.refl w.heap.size w) (.cells #[.bool false, .slice none 0 0, .slice none 0 0] 25)
  have hC := Lib.hid (hF _ hW)
  have HX := Lib.hid (And.intro hA hW)
  obtain ⟨nn, hnn⟩ : ∃ nn, (if no = 0 then 160 else no) = nn := ⟨_, rfl⟩
  have HN := Lib.hid hnn
  rw [hnn]
  clear hA hW hF hnn
  go_enter Tryd.func17, Tryd.ntmps17
  go_wp2_with fail
  refine hC.out.mono ?_
  rintro e w3 ⟨b, x1, m1, c1, x2, m2, c2, rfl, h1⟩
  have hst := balloc (Below.refl w3.heap.size w3) (.cells #[.bool b, .slice x1 m1 c1, .slice x2 m2 c2] 25)
  have hA3 := (HX.out.1.keep h1).keep hst
  have hW3 := bstep (bstep HX.out.2 h1) hst
  have a0 := cell_of_row _ _ 0 _ _ _ hA3
  have a1 := cell_of_row _ _ 1 _ _ _ hA3
  have a2 := cell_of_row _ _ 2 _ _ _ hA3
  have f0 := frozen_of_row _ _ 0 _ _ hA3
  have f1 := frozen_of_row _ _ 1 _ _ hA3
  have f2 := frozen_of_row _ _ 2 _ _ hA3
  have hG := grown_set' (grown_set' (grown_set' (grown_refl (w3.alloc (.cells #[.bool b, .slice x1 m1 c1, .slice x2 m2 c2] 25)) w.heap.size) 0 (.bool false)) 1 (.slice none 0 0)) 2 (.slice none 0 0)
  have HE := Lib.hid (step_world hW3 hG (Nat.le_refl _) (by omega))
  clear hst hA3 hW3 hG h1 HX hC
  by_cases h0 : no = 0
  · have hnq : ((n : Int) != (q : Int)) = true := by simp; omega
    have hnq' : ¬ n = q := by omega
    have hnn : nn = 160 := by rw [← HN.out, if_pos h0]
    have HNN := Lib.hid hnn
    subst h0
    clear hnn hno
    go_wp2_with fail
    exact bodyPost_ret (v := .tuple #[itW false none 0 0 none 0 0, .int .i64 160]) (by simp [results, Tryd.results17, go_sem, a0, a1, a2]) rfl ⟨by rw [HNN.out]; rfl, HE.out⟩
  · have hne : ((no : Int) == 0) = false := by simp; omega
    have hne2 : ((no : Int) != 0) = true := by simp; omega
    have hnn : nn = no := by rw [← HN.out, if_neg h0]
    have HNN := Lib.hid hnn
    clear hnn hno h0
    go_wp2_with fail
    exact bodyPost_ret (v := .tuple #[itW false none 0 0 none 0 0, .int .i64 (no : Nat)]) (by simp [results, Tryd.results17, go_sem, a0, a1, a2]) rfl ⟨by rw [HNN.out], HE.out⟩
end Go.Proofs.YtjmfnafbjfceoaaDoor

/- item's law: the chapter's list and its bytes. -/
namespace Go.Proofs.YtjmfnafbjfceoaaDoor
open Go.RowKit Go.Shelf

theorem laB_5 : laB [5] = [5] := by unfold laB koL; simp
theorem laB_128 : laB [128] = [129, 128] := by unfold laB koL heL; simp
theorem laB_nil : laB [] = [128] := by unfold laB koL heL; simp
theorem laB_dog : laB [100, 111, 103] = [131, 100, 111, 103] := by unfold laB koL heL; simp
theorem laL_dog : laL [[131, 100, 111, 103], [128]] = [197, 131, 100, 111, 103, 128] := by unfold laL toL heL; simp
attribute [local irreducible] lb wdG byA byC heL nuL
def dogT : It := .mk true [] [.mk false [100, 111, 103] [], .mk false [] []]
theorem dog_may : rtB 8 dogT = true := by decide
theorem Bt.nil (B : Nat) (X : World) : Bt B X (.slice none 0 0) [] := ⟨by simp, none, 0, rfl, Nat.le_refl _, by omega, .inl ⟨rfl, rfl, rfl⟩⟩
theorem Its.nil (B : Nat) (X : World) : Its B X (.slice none 0 0) [] := ⟨none, 0, rfl, Nat.le_refl _, by omega, fun h => (h rfl).elim⟩
/-- An item of bytes, as a tree. -/
theorem ItA.bytes {B : Nat} {X : World} {v : Value} {l : List Nat} (h : Bt B X v l) : ItA B X (.mk false l []) (itB v) := ItA.mk false l [] v (.slice none 0 0) [] h (Its.nil B X) rfl (by simp) (fun i t v h _ => by simp at h)

set_option maxRecDepth 100000 in
set_option maxHeartbeats 4000000 in
theorem dog_any (w : World) :
    Calls Tryd.prog 23 #[] w fun e w' => ∃ S D, e = .returned (itW true none 0 0 (some ⟨S, 0, none⟩) 2 2) ∧
      Bt w'.heap.size w' (.slice (some ⟨D, 0, none⟩) 3 3) [100, 111, 103] ∧ Its w'.heap.size w' (.slice (some ⟨S, 0, none⟩) 2 2) [itB (.slice (some ⟨D, 0, none⟩) 3 3), itB (.slice none 0 0)] ∧ Below w.heap.size w w' := by
  have kc := _root_.Go.Joins.run_convert_bytes_const_at (P := Tryd.prog) (w.alloc (.cells #[.bool false, .slice none 0 0, .slice none 0 0] 25)) 22 5 #[.int .u8 100, .int .u8 111, .int .u8 103] 3 3 (w.heap.size + 1) (by simp) (by kernel_rfl) (by kernel_rfl)
  go_enter Tryd.func23, Tryd.ntmps23
  go_wp2_with fail
  obtain ⟨I, hI⟩ : ∃ I, Obj.cells #[.bool true, .slice none 0 0, .slice (some ⟨w.heap.size + 1 + 1, 0, none⟩) 2 2] 25 = I := ⟨_, rfl⟩
  obtain ⟨A, hA⟩ : ∃ A, w.alloc I = A := ⟨_, rfl⟩
  have hAs : A.heap.size = w.heap.size + 1 := by rw [← hA]; simp
  have hWA : Below w.heap.size w A := by rw [← hA]; exact balloc (Below.refl _ _) _
  have cI : ∀ k, k < 3 → A.cell? ⟨w.heap.size, k, none⟩ = #[Value.bool true, .slice none 0 0, .slice (some ⟨w.heap.size + 1 + 1, 0, none⟩) 2 2][k]? := fun k _ => by
    rw [← hA, ← hI]; exact cell_of_row _ _ k _ _ _ (Blk.new w _ _)
  have cD : ∀ k, ((A.alloc (.cells #[.int .u8 100, .int .u8 111, .int .u8 103] 5 (3, 4)))).cell? ⟨w.heap.size + 1, k, none⟩ = #[Value.int .u8 100, .int .u8 111, .int .u8 103][k]? := fun k => Go.Joins.cell_alloc_mark_at A _ _ _ _ _ (by omega)
  obtain ⟨D, hD⟩ : ∃ D, A.alloc (.cells #[.int .u8 100, .int .u8 111, .int .u8 103] 5 (3, 4)) = D := ⟨_, rfl⟩
  have hDs : D.heap.size = w.heap.size + 2 := by rw [← hD]; simp [hAs]
  have hAD : Below A.heap.size A D := by rw [← hD]; exact (Below.refl _ _).alloc (Nat.le_refl _) _
  rw [hD] at cD
  obtain ⟨F, hF⟩ : ∃ F, D.alloc (.cells #[.bool false, .slice (some ⟨w.heap.size + 1, 0, none⟩) 3 3, .slice none 0 0, .bool false, .slice none 0 0, .slice none 0 0] 25) = F := ⟨_, rfl⟩
  have hFs : F.heap.size = w.heap.size + 3 := by rw [← hF]; simp [hDs]
  have hDF : Below D.heap.size D F := by rw [← hF]; exact (Below.refl _ _).alloc (Nat.le_refl _) _
  have cS : ∀ k, F.cell? ⟨w.heap.size + 2, k, none⟩ = #[Value.bool false, .slice (some ⟨w.heap.size + 1, 0, none⟩) 3 3, .slice none 0 0, .bool false, .slice none 0 0, .slice none 0 0][k]? := fun k => by
    have h := cell_of_row _ _ k _ _ _ (Blk.new D 25 #[.bool false, .slice (some ⟨w.heap.size + 1, 0, none⟩) 3 3, .slice none 0 0, .bool false, .slice none 0 0, .slice none 0 0])
    rw [hF, hDs] at h
    exact h
  have cD2 : ∀ k, F.cell? ⟨w.heap.size + 1, k, none⟩ = #[Value.int .u8 100, .int .u8 111, .int .u8 103][k]? := fun k => (hDF.cell (p := ⟨w.heap.size + 1, k, none⟩) (by show w.heap.size + 1 < D.heap.size; omega)).trans (cD k)
  have cI2 : ∀ k, k < 3 → F.cell? ⟨w.heap.size, k, none⟩ = #[Value.bool true, .slice none 0 0, .slice (some ⟨w.heap.size + 1 + 1, 0, none⟩) 2 2][k]? := fun k hk => (hDF.cell (p := ⟨w.heap.size, k, none⟩) (by show w.heap.size < D.heap.size; omega)).trans ((hAD.cell (p := ⟨w.heap.size, k, none⟩) (by show w.heap.size < A.heap.size; omega)).trans (cI k hk))
  have k0 : F.cell? ⟨w.heap.size, 0, none⟩ = some (.bool true) := cI2 0 (by omega)
  have k1 : F.cell? ⟨w.heap.size, 1, none⟩ = some (.slice none 0 0) := cI2 1 (by omega)
  have k2 : F.cell? ⟨w.heap.size, 2, none⟩ = some (.slice (some ⟨w.heap.size + 1 + 1, 0, none⟩) 2 2) := cI2 2 (by omega)
  have hb : Bt F.heap.size F (.slice (some ⟨w.heap.size + 1, 0, none⟩) 3 3) [100, 111, 103] := by
    refine ⟨by simp, _, _, rfl, Nat.le_refl _, by omega, .inr ⟨_, 0, rfl, fun _ => ⟨by omega, by omega⟩, fun k u hu => ?_⟩⟩
    rw [Nat.zero_add, cD2]
    match k with
    | 0 => simp at hu ⊢; omega
    | 1 => simp at hu ⊢; omega
    | 2 => simp at hu ⊢; omega
    | k + 3 => simp at hu
  have hs : Its F.heap.size F (.slice (some ⟨w.heap.size + 2, 0, none⟩) 2 2) [itB (.slice (some ⟨w.heap.size + 1, 0, none⟩) 3 3), itB (.slice none 0 0)] := by
    refine ⟨_, _, rfl, Nat.le_refl _, by omega, fun _ => ⟨_, 0, rfl, by omega, by omega, fun i v hi => ?_⟩⟩
    match i with
    | 0 => simp at hi; subst hi; exact ⟨_, _, _, _, _, _, _, rfl, cS 0, cS 1, cS 2⟩
    | 1 => simp at hi; subst hi; exact ⟨_, _, _, _, _, _, _, rfl, cS 3, cS 4, cS 5⟩
    | i + 2 => simp at hi
  rw [hI, hA, hD, hF]
  exact bodyPost_ret (v := itW true none 0 0 (some ⟨w.heap.size + 1 + 1, 0, none⟩) 2 2) (by simp [results, Tryd.results23, go_sem, k0, k1, k2]) rfl ⟨_, _, rfl, hb, hs, bstep (bstep hWA hAD) hDF⟩

set_option maxRecDepth 100000 in
set_option maxHeartbeats 4000000 in
/-- Encode of the chapter's list. -/
theorem encode_dog (S D : Nat) (w : World) (hb : Bt w.heap.size w (.slice (some ⟨D, 0, none⟩) 3 3) [100, 111, 103]) (hs : Its w.heap.size w (.slice (some ⟨S, 0, none⟩) 2 2) [itB (.slice (some ⟨D, 0, none⟩) 3 3), itB (.slice none 0 0)]) (hH : HD w) :
    Calls Tryd.prog 10 #[itW true none 0 0 (some ⟨S, 0, none⟩) 2 2] w fun e w' => ∃ y m d, e = .returned (.tuple #[.slice y m d, .int .i64 0]) ∧ Ow w' w.heap.size (.slice y m d) [197, 131, 100, 111, 103, 128] ∧ Below w.heap.size w w' := by
  have hT : ItA w.heap.size w dogT (itW true none 0 0 (some ⟨S, 0, none⟩) 2 2) := by
    refine ItA.mk true [] _ _ _ _ (Bt.nil _ _) hs rfl (by simp) (fun i t v h1 h2 => ?_)
    match i with
    | 0 => simp at h1 h2; subst h1 h2; exact ItA.bytes hb
    | 1 => simp at h1 h2; subst h1 h2; exact ItA.bytes (Bt.nil _ _)
    | i + 2 => simp at h1
  have h := encode_fits true none 0 0 (some ⟨S, 0, none⟩) 2 2 (laL [[131, 100, 111, 103], [128]]) w
    (fun X hX => by
      have h := mayBe_any 8 (Nat.le_refl _) dogT _ w.heap.size X hX.size (hT.new hX)
      rw [dog_may] at h
      exact h)
    (fun X hX => laid_list w.heap.size none 0 0 (some ⟨S, 0, none⟩) 2 2 _ [[131, 100, 111, 103], [128]] X hX.size (by simp) rfl (by rw [laL_dog]; simp) (hs.new hX) (hH.keep hX) (fun i v ys h1 h2 Y hY => by
      have hXY := bstep hX hY
      match i with
      | 0 =>
        simp at h1 h2; subst h1 h2
        have h := laid_bytes _ [100, 111, 103] w.heap.size Y (hb.new hXY) (by simp) (hH.keep hXY)
        rw [laB_dog] at h
        exact h.mono fun e w' h => h.1 (by simp)
      | 1 =>
        simp at h1 h2; subst h1 h2
        have h := laid_bytes _ [] w.heap.size Y (Bt.nil _ _) (by simp) (hH.keep hXY)
        rw [laB_nil] at h
        exact h.mono fun e w' h => h.1 (by simp)
      | i + 2 => simp at h1))
  rw [laL_dog] at h
  exact h
end Go.Proofs.YtjmfnafbjfceoaaDoor

/- item's law: the chapter's rows. -/
namespace Go.Proofs.YtjmfnafbjfceoaaDoor
open Go.RowKit Go.Shelf
attribute [local irreducible] lb wdG byA byC heL nuL laB laL toS
theorem cut_815 : cutS [129, 5] = some (1, [5], []) := by rw [cutS_cons]; unfold kdN hdN leS; simp
theorem cut_b8 : cutS [184, 1, 9] = none := by rw [cutS_cons]; unfold kdN hdN leS nuL woS; simp [numB]
theorem cut_56 : cutS [5, 6] = some (0, [5], [6]) := by rw [cutS_cons]; simp
theorem ko_5 : koL [5] = 0 := by unfold koL; simp
theorem wo_01 : woS false [0, 1] = (0, 160) := by unfold woS; simp
/-- A slice of bytes that was just built. -/
theorem Bt.built {X : World} {l : List Nat} (hl : ∀ x ∈ l, x < 256) (hn : l.length ≤ 1000) (g : Nat) (hg : g = X.heap.size) (n : Nat) (hln : l.length = n) : Bt (g + 1) (X.alloc (.cells (bvs l).toArray 5)) (.slice (some ⟨g, 0, none⟩) n n) l := by
  subst hg hln
  refine ⟨hl, _, _, rfl, Nat.le_refl _, by omega, .inr ⟨_, 0, rfl, fun _ => ⟨by omega, by simp⟩, fun k u hu => ?_⟩⟩
  rw [Nat.zero_add, cell_of_row _ _ k _ _ _ (Blk.new X _ _)]
  simp [bvs_get, hu]

set_option maxRecDepth 100000 in
set_option maxHeartbeats 8000000 in
theorem works_any6 (w : World) (hH : HD w) :
    Calls Tryd.prog 9 #[] w fun e w' => e = .returned (.bool true) ∧ Below w.heap.size w w' := by
  have HH := Lib.hid hH
  clear hH
  go_enter Tryd.func9, Tryd.ntmps9
  go_wp2_with fail
  -- a: one byte below the heads
  have hW1 : Below w.heap.size w (w.alloc (.cells #[.int .u8 5] 5)) := balloc (Below.refl _ _) _
  refine (encode_bytes _ [5] (w.heap.size + 1) _ (Bt.built (X := w) (l := [5]) (by simp) (by simp) _ rfl 1 rfl) (by rw [laB_5]; simp) (HH.out.keep hW1)).mono ?_
  rw [laB_5]
  rintro e w1 ⟨xa, ma, ca, rfl, hOa, h1⟩
  have hWa := bstep hW1 h1
  have HA := Lib.hid (And.intro hOa.bt hWa)
  clear hW1 h1 hOa hWa
  go_wp2_with fail
  -- b: one byte that is a head
  have hW2 := balloc (Below.refl w1.heap.size w1) (.cells #[.int .u8 128] 5)
  refine (encode_bytes _ [128] (w1.heap.size + 1) _ (Bt.built (X := w1) (l := [128]) (by simp) (by simp) _ rfl 1 rfl) (by rw [laB_128]; simp) (HH.out.keep (bstep HA.out.2 hW2))).mono ?_
  rw [laB_128]
  rintro e w2 ⟨xb, mb, cb, rfl, hOb, h2⟩
  have HB := Lib.hid (And.intro ((HA.out.1.new hW2).new h2) (And.intro hOb.bt (bstep (bstep HA.out.2 hW2) h2)))
  clear hW2 hOb h2 HA
  go_wp2_with fail
  -- c: no bytes
  refine (encode_bytes _ [] 0 _ (Bt.nil 0 w2) (by rw [laB_nil]; simp) (HH.out.keep HB.out.2.2)).mono ?_
  rw [laB_nil]
  rintro e w3 ⟨xc, mc, cc, rfl, hOc, h3⟩
  have HC := Lib.hid (And.intro (HB.out.1.new h3) (And.intro (HB.out.2.1.new h3) (And.intro hOc.bt (bstep HB.out.2.2 h3))))
  clear hOc h3 HB
  go_wp2_with fail
  -- d: the list
  refine (dog_any w3).mono ?_
  rintro e w4 ⟨S, D, rfl, hb4, hs4, h4⟩
  have HD4 := Lib.hid (And.intro hb4 hs4)
  have HC2 := Lib.hid (And.intro (HC.out.1.new h4) (And.intro (HC.out.2.1.new h4) (And.intro (HC.out.2.2.1.new h4) (bstep HC.out.2.2.2 h4))))
  clear hb4 hs4 h4 HC
  go_wp2_with fail
  refine (encode_dog S D w4 HD4.out.1 HD4.out.2 (HH.out.keep HC2.out.2.2.2)).mono ?_
  rintro e w5 ⟨xd, md, cd, rfl, hOd, h5⟩
  have H5 := Lib.hid (And.intro (HC2.out.1.new h5) (And.intro (HC2.out.2.1.new h5) (And.intro (HC2.out.2.2.1.new h5) (And.intro hOd.bt (bstep HC2.out.2.2.2 h5)))))
  clear hOd h5 HC2 HD4
  go_wp2_with fail
  -- e: one byte of the wrong form
  have hW6 := balloc (Below.refl w5.heap.size w5) (.cells #[.int .u8 129, .int .u8 5] 5)
  refine (decode_err (w5.heap.size + 1) _ [129, 5] _ (Bt.built (X := w5) (l := [129, 5]) (by simp) (by simp) _ rfl 2 rfl) (by simp) (HH.out.keep (bstep H5.out.2.2.2.2 hW6)) (by simp) (.inr ⟨1, [5], [], cut_815, .inr rfl, by rw [ko_5]; omega⟩)).mono ?_
  rintro e w6 ⟨rfl, h6⟩
  have hs6 := bstep hW6 (bstep h6 (balloc (Below.refl w6.heap.size w6) (.cells #[.bool false, .slice none 0 0, .slice none 0 0] 25)))
  have H6 := Lib.hid (And.intro (H5.out.1.new hs6) (And.intro (H5.out.2.1.new hs6) (And.intro (H5.out.2.2.1.new hs6) (And.intro (H5.out.2.2.2.1.new hs6) (bstep H5.out.2.2.2.2 hs6)))))
  clear hW6 h6 hs6 H5
  go_wp2_with fail
  -- f: a head that should have been a shorter one
  obtain ⟨W6, hW6⟩ : ∃ W6, w6.alloc (.cells #[.bool false, .slice none 0 0, .slice none 0 0] 25) = W6 := ⟨_, rfl⟩
  have hsz6 : w6.heap.size + 1 = W6.heap.size := by rw [← hW6]; simp
  rw [hW6] at H6 ⊢
  clear hW6
  have hW7 := balloc (Below.refl W6.heap.size W6) (.cells #[.int .u8 184, .int .u8 1, .int .u8 9] 5)
  refine (decode_err (w6.heap.size + 1 + 1) _ [184, 1, 9] _ (Bt.built (X := W6) (l := [184, 1, 9]) (by simp) (by simp) _ hsz6 3 rfl) (by simp [hsz6]) (HH.out.keep (bstep H6.out.2.2.2.2 hW7)) (by simp) (.inl cut_b8)).mono ?_
  rintro e w7 ⟨rfl, h7⟩
  have hs7 := bstep hW7 (bstep h7 (balloc (Below.refl w7.heap.size w7) (.cells #[.bool false, .slice none 0 0, .slice none 0 0] 25)))
  have H7 := Lib.hid (And.intro (H6.out.1.new hs7) (And.intro (H6.out.2.1.new hs7) (And.intro (H6.out.2.2.1.new hs7) (And.intro (H6.out.2.2.2.1.new hs7) (bstep H6.out.2.2.2.2 hs7)))))
  clear hW7 h7 hs7 H6 hsz6
  go_wp2_with fail
  -- g: the first of two
  obtain ⟨W7, hW7⟩ : ∃ W7, w7.alloc (.cells #[.bool false, .slice none 0 0, .slice none 0 0] 25) = W7 := ⟨_, rfl⟩
  have hsz7 : w7.heap.size + 1 = W7.heap.size := by rw [← hW7]; simp
  rw [hW7] at H7 ⊢
  clear hW7
  have hW8 := balloc (Below.refl W7.heap.size W7) (.cells #[.int .u8 5, .int .u8 6] 5)
  refine (first_ret (w7.heap.size + 1 + 1) _ [5, 6] 0 [5] [6] _ (Bt.built (X := W7) (l := [5, 6]) (by simp) (by simp) _ hsz7 2 rfl) (by simp [hsz7]) (HH.out.keep (bstep H7.out.2.2.2.2 hW8)) (by simp) cut_56 (.inl rfl) ko_5).mono ?_
  rintro e w8 ⟨xe, me, ce, rfl, hOe, h8⟩
  have hst8 := balloc (Below.refl w8.heap.size w8) (.cells #[.bool false, .slice xe me ce, .slice none 0 0] 25)
  have hs8 := bstep hW8 (bstep h8 hst8)
  have hTx := Blk.new w8 25 #[.bool false, .slice xe me ce, .slice none 0 0]
  have H8 := Lib.hid (And.intro (H7.out.1.new hs8) (And.intro (H7.out.2.1.new hs8) (And.intro (H7.out.2.2.1.new hs8) (And.intro (H7.out.2.2.2.1.new hs8) (And.intro (hOe.bt.new hst8) (And.intro hTx (bstep H7.out.2.2.2.2 hs8)))))))
  clear hW8 h8 hs8 H7 hsz7 hOe hst8 hTx
  go_wp2_with fail
  -- h: no number's item
  obtain ⟨W8, hW8⟩ : ∃ W8, w8.alloc (.cells #[.bool false, .slice xe me ce, .slice none 0 0] 25) = W8 := ⟨_, rfl⟩
  have hsz8 : w8.heap.size + 1 = W8.heap.size := by rw [← hW8]; simp
  rw [hW8] at H8 ⊢
  clear hW8
  have hW9 := balloc (Below.refl W8.heap.size W8) (.cells #[.int .u8 0, .int .u8 1] 5)
  refine (word_may false [0, 1] _ _ _ 0 0 (w8.heap.size + 1 + 1) _ (Bt.built (X := W8) (l := [0, 1]) (by simp) (by simp) _ hsz8 2 rfl) (by simp) (fun X _ => mayBe_bytes _ _ _ _)).mono ?_
  rw [wo_01]
  rintro e w9 ⟨rfl, h9⟩
  have hst9 := balloc (Below.refl w9.heap.size w9) (.cells #[.int .u64 (lb 0 0), .int .u64 (lb 0 1), .int .u64 (lb 0 2), .int .u64 (lb 0 3)] 47)
  have hs9 := bstep hW9 (bstep h9 hst9)
  have H9 := Lib.hid (And.intro (H8.out.1.new hs9) (And.intro (H8.out.2.1.new hs9) (And.intro (H8.out.2.2.1.new hs9) (And.intro (H8.out.2.2.2.1.new hs9) (And.intro (H8.out.2.2.2.2.1.new hs9) (And.intro (H8.out.2.2.2.2.2.1.keep hs9) (bstep H8.out.2.2.2.2.2.2 hs9)))))))
  clear hW9 h9 hs9 H8 hsz8 hst9
  go_wp2_with fail
  obtain ⟨W9, hW9⟩ : ∃ W9, w9.alloc (.cells #[.int .u64 (lb 0 0), .int .u64 (lb 0 1), .int .u64 (lb 0 2), .int .u64 (lb 0 3)] 47) = W9 := ⟨_, rfl⟩
  rw [hW9] at H9 ⊢
  clear hW9
  have va := conv_bytes _ _ [5] W9 H9.out.1 (by simp)
  have vb := conv_bytes _ _ [129, 128] W9 H9.out.2.1 (by simp)
  have vc := conv_bytes _ _ [128] W9 H9.out.2.2.1 (by simp)
  have vd := conv_bytes _ _ [197, 131, 100, 111, 103, 128] W9 H9.out.2.2.2.1 (by simp)
  have ta : (toS [5]).toList = [5] := toS_list _
  have tb : (toS [129, 128]).toList = [129, 128] := toS_list _
  have tc : (toS [128]).toList = [128] := toS_list _
  have td : (toS [197, 131, 100, 111, 103, 128]).toList = [197, 131, 100, 111, 103, 128] := toS_list _
  generalize toS [5] = sa at va ta
  generalize toS [129, 128] = sb at vb tb
  generalize toS [128] = sc at vc tc
  generalize toS [197, 131, 100, 111, 103, 128] = sd at vd td
  have x0 : W9.cell? ⟨w8.heap.size, 0, none⟩ = some (.bool false) := cell_of_row _ _ 0 _ _ _ H9.out.2.2.2.2.2.1
  have x1 : W9.cell? ⟨w8.heap.size, 1, none⟩ = some (.slice xe me ce) := cell_of_row _ _ 1 _ _ _ H9.out.2.2.2.2.2.1
  have x2 : W9.cell? ⟨w8.heap.size, 2, none⟩ = some (.slice none 0 0) := cell_of_row _ _ 2 _ _ _ H9.out.2.2.2.2.2.1
  refine (num_any _ _).mono ?_
  rintro e wx ⟨rfl, rfl⟩
  go_wp2_with (first | (go_at_call 12; refine (num_any _ _).mono ?_; rintro e wx ⟨rfl, rfl⟩) | fail)
  have hWa := balloc (Below.refl W9.heap.size W9) (.cells #[.int .u8 5] 5)
  have hSame := rsame_bytes w8.heap.size (W9.heap.size + 1) (.slice xe me ce) (.slice (some ⟨W9.heap.size, 0, none⟩) 1 1) [5] [5] _ (H9.out.2.2.2.2.1.new hWa) (Bt.built (X := W9) (l := [5]) (by simp) (by simp) _ rfl 1 rfl) (by simp) (by simp)
  rw [decide_eq_true rfl] at hSame
  refine hSame.mono ?_
  rintro e w10 ⟨rfl, h10⟩
  have H10 := Lib.hid (bstep H9.out.2.2.2.2.2.2 (bstep hWa h10))
  clear hWa hSame h10 va vb vc vd x0 x1 x2 ta tb tc td H9
  go_wp2_with (first | (go_at_call 12; refine (num_any _ _).mono ?_; rintro e wx ⟨rfl, rfl⟩) | fail)
  refine (rof_any 256 (by unfold B64; omega) _).mono ?_
  rintro e w11 ⟨rfl, h11⟩
  have H11 := Lib.hid (bstep H10.out h11)
  clear h11 H10
  go_wp2_with fail
  refine (number_any 256 _).mono ?_
  rintro e w12 ⟨B, rfl, hB, hBw, h12⟩
  have hwd : wdN 256 = 2 := by rw [wd_small 256 (by omega) (by omega), if_neg (by omega)]
  have hnb : nbV B (wdN 256) = .slice (some ⟨B, 30, none⟩) 2 2 := by rw [hwd]; unfold nbV; rw [if_neg (by omega)]
  have hbt : Bt w12.heap.size w12 (.slice (some ⟨B, 30, none⟩) 2 2) [1, 0] := by
    refine ⟨by simp, _, _, rfl, Nat.le_refl _, by omega, .inr ⟨_, 30, rfl, fun _ => ⟨hB.lt, hB.lt⟩, fun k u hu => ?_⟩⟩
    match k with
    | 0 => simp at hu; subst hu; rw [cell_of_row w12 B _ _ _ _ hB, byC_at 256 _ (by omega)]; unfold byA; simp
    | 1 => simp at hu; subst hu; rw [cell_of_row w12 B _ _ _ _ hB, byC_at 256 _ (by omega)]; unfold byA; simp
    | k + 2 => simp at hu
  have hWb := balloc (Below.refl w12.heap.size w12) (.cells #[.int .u8 1, .int .u8 0] 5)
  have hSame := rsame_bytes w12.heap.size (w12.heap.size + 1) (.slice (some ⟨B, 30, none⟩) 2 2) (.slice (some ⟨w12.heap.size, 0, none⟩) 2 2) [1, 0] [1, 0] _ (hbt.new hWb) (Bt.built (X := w12) (l := [1, 0]) (by simp) (by simp) _ rfl 2 rfl) (by simp) (by simp)
  rw [decide_eq_true rfl] at hSame
  have HS := Lib.hid hSame
  have H12 := Lib.hid (bstep (bstep H11.out h12) hWb)
  rw [hnb]
  clear hwd hnb hbt hB hBw h12 hWb hSame H11
  go_wp2_with fail
  refine HS.out.mono ?_
  rintro e w13 ⟨rfl, h13⟩
  have H13 := Lib.hid (bstep H12.out h13)
  clear HS H12 h13
  go_wp2_with fail
  go_ret
  exact ⟨rfl, H13.out⟩
end Go.Proofs.YtjmfnafbjfceoaaDoor

/- item's law: ItemLong: the walk. -/
namespace Go.Proofs.YtjmfnafbjfceoaaDoor
open Go.RowKit Go.Shelf
attribute [local irreducible] lb wdG byA byC nuL toS
theorem made_u8 (n : Nat) : madeCells (Value.int .u8 0).cells (n * 1) = (bvs (List.replicate n 0)).toArray := by
  apply Array.ext_getElem?
  intro i
  unfold madeCells bvs
  by_cases hi : i < n <;> simp [Value.cells, Nat.mod_one, hi]
theorem make_bytes (n : Nat) (hn : n ≤ 1000000) (w : World) : (Instr.makeSlice 22 (.int .i64 n) (.int .i64 n)).run Tryd.prog w = .ok (.slice (some ⟨w.heap.size, 0, none⟩) n n) (w.alloc (.cells (bvs (List.replicate n 0)).toArray 5)) := by
  obtain ⟨i, hi, hz, hs, hb⟩ := info_parts' infoU8
  have h := run_makeSlice (P := Tryd.prog) (w := w) 22 5 i (.int .u8 0) (by kernel_rfl) hi hz .i64 .i64 n n (by omega) (by omega) (by rw [hs]; omega) (by rw [hb]; omega) (by omega)
  rw [hs, Int.toNat_natCast, made_u8] at h
  exact h
theorem Bt.made {X : World} (n : Nat) (g : Nat) (hg : g = X.heap.size) (hn : n ≤ 1000000) : Bt (g + 1) (X.alloc (.cells (bvs (List.replicate n 0)).toArray 5)) (.slice (some ⟨g, 0, none⟩) n n) (List.replicate n 0) := by
  subst hg
  refine ⟨fun x hx => by have := List.eq_of_mem_replicate hx; omega, _, _, by rw [List.length_replicate], by rw [List.length_replicate]; exact Nat.le_refl _, by omega, .inr ⟨_, 0, rfl, fun _ => ⟨by omega, by simp⟩, fun k u hu => ?_⟩⟩
  rw [Nat.zero_add, cell_of_row _ _ k _ _ _ (Blk.new X _ _)]
  simp [bvs_get, hu]
theorem la_noughts (n : Nat) (h1 : 256 ≤ n) (h2 : n < 65536) : (laB (List.replicate n 0)).length = n + 3 := by
  unfold laB koL
  rw [if_neg (by simp; omega), List.length_append, List.length_replicate, heL_eq _ _ h2, if_neg (by omega), if_neg (by omega)]
  simp; omega
theorem cut_noughts (n : Nat) : cutS (List.replicate (n + 1) 0) = some (0, [0], List.replicate n 0) := by
  rw [List.replicate_succ, cutS_cons, if_pos (by omega)]
theorem ko_0 : koL [0] = 0 := by unfold koL; simp
attribute [local irreducible] laB
set_option maxRecDepth 100000 in
set_option maxHeartbeats 8000000 in
theorem long_walk (m : Int) (w : World) (hH : HD w) :
    Calls Tryd.prog 6 #[.int .i64 m] w fun e w' => e = .returned (.bool true) ∧ Below w.heap.size w w' := by
  by_cases hlo : m < -3
  · have hWk := Lib.hid (works_any6 w hH)
    clear hH
    go_enter Tryd.func6, Tryd.ntmps6
    go_wp2_with fail
    refine hWk.out.mono ?_
    rintro e w1 ⟨rfl, h1⟩
    have H1 := Lib.hid h1
    clear h1 hWk
    go_wp2_with fail
    go_ret
    exact ⟨rfl, H1.out⟩
  · by_cases hhi : 2 < m
    · have hWk := Lib.hid (works_any6 w hH)
      clear hH
      have hlo2 : -3 ≤ m := by omega
      go_enter Tryd.func6, Tryd.ntmps6
      go_wp2_with fail
      refine hWk.out.mono ?_
      rintro e w1 ⟨rfl, h1⟩
      have H1 := Lib.hid h1
      clear h1 hWk
      go_wp2_with fail
      go_ret
      exact ⟨rfl, H1.out⟩
    · obtain ⟨k, hk, hk5⟩ : ∃ k : Nat, m = (k : Int) - 3 ∧ k ≤ 5 := ⟨(m + 3).toNat, by omega, by omega⟩
      subst hk
      have HH := Lib.hid hH
      have g1 : ¬ (k : Int) - 3 < -3 := by omega
      have g2 : ¬ (2 : Int) < (k : Int) - 3 := by omega
      have g3 : IntKind.i64.wrap (4093 + ((k : Int) - 3)) = ((4090 + k : Nat) : Int) := (IntWalk.i64_in _ (by omega)).trans (by omega)
      have g4 : IntKind.i64.wrap (4096 + ((k : Int) - 3)) = ((4093 + k : Nat) : Int) := (IntWalk.i64_in _ (by omega)).trans (by omega)
      obtain ⟨a, ha⟩ : ∃ a, 4090 + k = a := ⟨_, rfl⟩
      obtain ⟨b, hb⟩ : ∃ b, 4093 + k = b := ⟨_, rfl⟩
      rw [ha] at g3
      rw [hb] at g4
      have hm1 := make_bytes a (by omega)
      have hm2 := make_bytes b (by omega)
      have HA := Lib.hid (And.intro ha hb)
      clear hH ha hb hlo hhi
      go_enter Tryd.func6, Tryd.ntmps6
      go_wp2_with fail
      by_cases hk3 : k ≤ 3
      · have g5 : ¬ (0 : Int) < (k : Int) - 3 := by omega
        have hW1 : Below w.heap.size w (w.alloc (.cells (bvs (List.replicate a 0)).toArray 5)) := balloc (Below.refl _ _) _
        refine (encode_bytes _ (List.replicate a 0) (w.heap.size + 1) _ (Bt.made (X := w) a _ rfl (by have := HA.out; omega)) (by rw [la_noughts a (by have := HA.out; omega) (by have := HA.out; omega)]; have := HA.out; omega) (HH.out.keep hW1)).mono ?_
        rintro e w1 ⟨xa, ma, ca, rfl, hOa, h1⟩
        have hma : ma = b := by
          obtain ⟨x, c, e⟩ := hOa.is
          injection e with _ e _
          rw [e, la_noughts a (by have := HA.out; omega) (by have := HA.out; omega)]; have := HA.out; omega
        subst hma
        have H1 := Lib.hid (bstep hW1 h1)
        clear hOa hW1 h1
        go_wp2_with fail
        have hWm0 : Below w1.heap.size w1 (w1.alloc (.cells (bvs (List.replicate ma 0)).toArray 5)) := balloc (Below.refl _ _) _
        refine (decode_short (w1.heap.size + 1) _ (List.replicate ma 0) 0 [0] (List.replicate (ma - 1) 0) _ (Bt.made (X := w1) ma _ rfl (by have := HA.out; omega)) (by simp) (HH.out.keep (bstep H1.out hWm0)) (by rw [List.length_replicate]; have := HA.out; omega) (by have h := cut_noughts (ma - 1); rwa [show ma - 1 + 1 = ma by have := HA.out; omega] at h) (.inl rfl) ko_0 (by intro h; have := congrArg List.length h; simp at this; have := HA.out; omega)).mono ?_
        rintro e w2 ⟨rfl, hw2⟩
        have hst0 := bstep hWm0 (bstep hw2 (balloc (Below.refl w2.heap.size w2) (.cells #[.bool false, .slice none 0 0, .slice none 0 0] 25)))
        have H2 := Lib.hid (bstep H1.out hst0)
        clear hWm0 hw2 hst0 H1
        go_wp2_with fail
        obtain ⟨W2, hW2⟩ : ∃ W2, w2.alloc (.cells #[.bool false, .slice none 0 0, .slice none 0 0] 25) = W2 := ⟨_, rfl⟩
        have hsz2 : w2.heap.size + 1 = W2.heap.size := by rw [← hW2]; simp
        rw [hW2] at H2 ⊢
        clear hW2
        have hWm1 : Below W2.heap.size W2 (W2.alloc (.cells (bvs (List.replicate ma 0)).toArray 5)) := balloc (Below.refl _ _) _
        refine (rdecode_not 0 1 _ ma ma _ (.inr (by have := HA.out; omega)) (fun X hX => (rfirst_alone (w2.heap.size + 1 + 1) _ 0 (List.replicate (ma - 1) 0) X (by have h := (Bt.made (X := W2) ma _ hsz2 (by have := HA.out; omega)).new hX; rwa [show List.replicate ma 0 = 0 :: List.replicate (ma - 1) 0 by rw [← List.replicate_succ, show ma - 1 + 1 = ma by have := HA.out; omega]] at h) (by omega) (by simp; have := HA.out; omega)).mono (by rintro e w' ⟨x, c, rfl, h⟩; exact ⟨false, x, 1, c, none, 0, 0, rfl, h⟩))).mono ?_
        rw [if_pos rfl]
        rintro e w3 ⟨rfl, hw3⟩
        have hst1 := bstep hWm1 (bstep hw3 (balloc (Below.refl w3.heap.size w3) (.cells #[.bool false, .slice none 0 0, .slice none 0 0] 25)))
        have H3 := Lib.hid (bstep H2.out hst1)
        clear hWm1 hw3 hst1 H2
        go_wp2_with fail
        have hWk := Lib.hid (works_any6 _ (HH.out.keep H3.out))
        refine (num_any _ _).mono ?_
        rintro e wx ⟨rfl, rfl⟩
        go_wp2_with (first | (go_at_call 12; refine (num_any _ _).mono ?_; rintro e wx ⟨rfl, rfl⟩) | fail)
        refine hWk.out.mono ?_
        rintro e w4 ⟨rfl, h4⟩
        have H4 := Lib.hid (bstep H3.out h4)
        clear hWk h4 H3
        go_wp2_with fail
        go_ret
        exact ⟨rfl, H4.out⟩
      · have g5 : (0 : Int) < (k : Int) - 3 := by omega
        have hW1 : Below w.heap.size w (w.alloc (.cells (bvs (List.replicate a 0)).toArray 5)) := balloc (Below.refl _ _) _
        refine (encode_bytes_over _ (List.replicate a 0) (w.heap.size + 1) _ (Bt.made (X := w) a _ rfl (by have := HA.out; omega)) (by rw [List.length_replicate]; have := HA.out; omega) (by rw [la_noughts a (by have := HA.out; omega) (by have := HA.out; omega)]; have := HA.out; omega) (HH.out.keep hW1)).mono ?_
        rintro e w1 ⟨rfl, h1⟩
        have H1 := Lib.hid (bstep hW1 h1)
        clear hW1 h1
        go_wp2_with fail
        have hWm0 : Below w1.heap.size w1 (w1.alloc (.cells (bvs (List.replicate b 0)).toArray 5)) := balloc (Below.refl _ _) _
        refine (decode_long (w1.heap.size + 1) _ (List.replicate b 0) _ (Bt.made (X := w1) b _ rfl (by have := HA.out; omega)) (by rw [List.length_replicate]; have := HA.out; omega)).mono ?_
        rintro e w2 ⟨rfl, hw2⟩
        have hst0 := bstep hWm0 (bstep hw2 (balloc (Below.refl w2.heap.size w2) (.cells #[.bool false, .slice none 0 0, .slice none 0 0] 25)))
        have H2 := Lib.hid (bstep H1.out hst0)
        clear hWm0 hw2 hst0 H1
        go_wp2_with fail
        obtain ⟨W2, hW2⟩ : ∃ W2, w2.alloc (.cells #[.bool false, .slice none 0 0, .slice none 0 0] 25) = W2 := ⟨_, rfl⟩
        have hsz2 : w2.heap.size + 1 = W2.heap.size := by rw [← hW2]; simp
        rw [hW2] at H2 ⊢
        clear hW2
        have hWm1 : Below W2.heap.size W2 (W2.alloc (.cells (bvs (List.replicate b 0)).toArray 5)) := balloc (Below.refl _ _) _
        refine (rdecode_not 3 0 _ b b _ (.inl (by omega)) (fun X hX => (rfirst_long _ b b (by have := HA.out; omega) X).mono (by rintro e w' ⟨rfl, h⟩; exact ⟨false, none, 0, 0, none, 0, 0, rfl, h⟩))).mono ?_
        rw [if_neg (by omega)]
        rintro e w3 ⟨rfl, hw3⟩
        have hst1 := bstep hWm1 (bstep hw3 (balloc (Below.refl w3.heap.size w3) (.cells #[.bool false, .slice none 0 0, .slice none 0 0] 25)))
        have H3 := Lib.hid (bstep H2.out hst1)
        clear hWm1 hw3 hst1 H2
        go_wp2_with fail
        have hWk := Lib.hid (works_any6 _ (HH.out.keep H3.out))
        refine (num_any _ _).mono ?_
        rintro e wx ⟨rfl, rfl⟩
        go_wp2_with (first | (go_at_call 12; refine (num_any _ _).mono ?_; rintro e wx ⟨rfl, rfl⟩) | fail)
        refine hWk.out.mono ?_
        rintro e w4 ⟨rfl, h4⟩
        have H4 := Lib.hid (bstep H3.out h4)
        clear hWk h4 H3
        go_wp2_with fail
        go_ret
        exact ⟨rfl, H4.out⟩
end Go.Proofs.YtjmfnafbjfceoaaDoor

/- item's cards: the heads' table as it is laid; the world for the witness. -/
namespace Go.Proofs.YtjmfnafbjfceoaaDoor
open Go.RowKit Go.ChangeShapes Go.WideShapes Go.ChangeAt

def headsC : Array Value := #[.int .u8 0, .int .u8 128, .int .u8 192]
noncomputable def laidW (os : Os) : World :=
  { World.holding Tryd.prog os ⟨#[], #[], []⟩ with heap := (((World.holding Tryd.prog os ⟨#[], #[], []⟩).heap.modify 1 (setC firstC)).modify 2 (setC rangesC)).modify 0 (setC headsC) }
theorem hd_of_laid {W : World} (h : laidMet Tryd.prog [("unicode/utf8.acceptRanges", Rows.laid_unicode_utf8_acceptRanges), ("excise/item.heads", Rows.laid_excise_item_heads), ("unicode/utf8.first", Rows.laid_unicode_utf8_first)] W) : HD W := by
  obtain ⟨ps, ⟨g0, t0, cs0, fuel0, p0, q0, _, _, _, _, hrest, _⟩, _⟩ := h
  obtain ⟨g', t', cs, fuel, p, q, hg', ht', hvar, hd, _, _⟩ := hrest
  have hgn : Tryd.prog.globalNamed "excise/item.heads" = some 0 := by kernel_rfl
  have hty : (Tryd.prog.globals[0]?).map (·.type) = some 95 := by kernel_rfl
  obtain rfl := Option.some.inj (hgn.symm.trans hg')
  obtain rfl := Option.some.inj (hty.symm.trans ht')
  have hcs := Lib.cells_of_tab (P := Tryd.prog) (k := .u8) (zs := [0, 128, 192]) (t := 95) (e := 5) (n := 3) (by kernel_rfl) (by kernel_rfl) (by kernel_rfl) (by kernel_rfl) hd
  intro j hj
  have hc := World.var?_cell hgn hvar j
  rw [hc, ← Array.getElem?_toList, hcs]
  match j, hj with
  | 0, _ => rfl
  | 1, _ => rfl
  | 2, _ => rfl
end Go.Proofs.YtjmfnafbjfceoaaDoor

