/- item's law: the chapter's list and its bytes. -/
import Derived.Test.YtjmfnafbjfceoaaDoorJl
import Derived.Lib.SmallJoins
namespace Go.Proofs.YtjmfnafbjfceoaaDoor
open Go.RowKit Go.Shelf

theorem laB_5 : laB [5] = [5] := by unfold laB koL; simp
theorem laB_128 : laB [128] = [129, 128] := by unfold laB koL heL; simp
theorem laB_nil : laB [] = [128] := by unfold laB koL heL; simp
theorem laB_dog : laB [100, 111, 103] = [131, 100, 111, 103] := by unfold laB koL heL; simp
theorem laL_dog : laL [[131, 100, 111, 103], [128]] = [197, 131, 100, 111, 103, 128] := by unfold laL toL heL; simp
attribute [local irreducible] lb wdG byA byC heL nuL
def dogT : It := .mk true [] [.mk false [100, 111, 103] [], .mk false [] []]
theorem dog_may : rtB 8 dogT = true := by decide
theorem Bt.nil (B : Nat) (X : World) : Bt B X (.slice none 0 0) [] := ⟨by simp, none, 0, rfl, Nat.le_refl _, by omega, .inl ⟨rfl, rfl, rfl⟩⟩
theorem Its.nil (B : Nat) (X : World) : Its B X (.slice none 0 0) [] := ⟨none, 0, rfl, Nat.le_refl _, by omega, fun h => (h rfl).elim⟩
/-- An item of bytes, as a tree. -/
theorem ItA.bytes {B : Nat} {X : World} {v : Value} {l : List Nat} (h : Bt B X v l) : ItA B X (.mk false l []) (itB v) := ItA.mk false l [] v (.slice none 0 0) [] h (Its.nil B X) rfl (by simp) (fun i t v h _ => by simp at h)

set_option maxRecDepth 100000 in
set_option maxHeartbeats 4000000 in
theorem dog_any (w : World) :
    Calls Tryd.prog 23 #[] w fun e w' => ∃ S D, e = .returned (itW true none 0 0 (some ⟨S, 0, none⟩) 2 2) ∧
      Bt w'.heap.size w' (.slice (some ⟨D, 0, none⟩) 3 3) [100, 111, 103] ∧ Its w'.heap.size w' (.slice (some ⟨S, 0, none⟩) 2 2) [itB (.slice (some ⟨D, 0, none⟩) 3 3), itB (.slice none 0 0)] ∧ Below w.heap.size w w' := by
  have kc := _root_.Go.Joins.run_convert_bytes_const_at (P := Tryd.prog) (w.alloc (.cells #[.bool false, .slice none 0 0, .slice none 0 0] 25)) 22 5 #[.int .u8 100, .int .u8 111, .int .u8 103] 3 3 (w.heap.size + 1) (by simp) (by kernel_rfl) (by kernel_rfl)
  go_enter Tryd.func23, Tryd.ntmps23
  go_wp2_with fail
  obtain ⟨I, hI⟩ : ∃ I, Obj.cells #[.bool true, .slice none 0 0, .slice (some ⟨w.heap.size + 1 + 1, 0, none⟩) 2 2] 25 = I := ⟨_, rfl⟩
  obtain ⟨A, hA⟩ : ∃ A, w.alloc I = A := ⟨_, rfl⟩
  have hAs : A.heap.size = w.heap.size + 1 := by rw [← hA]; simp
  have hWA : Below w.heap.size w A := by rw [← hA]; exact balloc (Below.refl _ _) _
  have cI : ∀ k, k < 3 → A.cell? ⟨w.heap.size, k, none⟩ = #[Value.bool true, .slice none 0 0, .slice (some ⟨w.heap.size + 1 + 1, 0, none⟩) 2 2][k]? := fun k _ => by
    rw [← hA, ← hI]; exact cell_of_row _ _ k _ _ _ (Blk.new w _ _)
  have cD : ∀ k, ((A.alloc (.cells #[.int .u8 100, .int .u8 111, .int .u8 103] 5 (3, 4)))).cell? ⟨w.heap.size + 1, k, none⟩ = #[Value.int .u8 100, .int .u8 111, .int .u8 103][k]? := fun k => Go.Joins.cell_alloc_mark_at A _ _ _ _ _ (by omega)
  obtain ⟨D, hD⟩ : ∃ D, A.alloc (.cells #[.int .u8 100, .int .u8 111, .int .u8 103] 5 (3, 4)) = D := ⟨_, rfl⟩
  have hDs : D.heap.size = w.heap.size + 2 := by rw [← hD]; simp [hAs]
  have hAD : Below A.heap.size A D := by rw [← hD]; exact (Below.refl _ _).alloc (Nat.le_refl _) _
  rw [hD] at cD
  obtain ⟨F, hF⟩ : ∃ F, D.alloc (.cells #[.bool false, .slice (some ⟨w.heap.size + 1, 0, none⟩) 3 3, .slice none 0 0, .bool false, .slice none 0 0, .slice none 0 0] 25) = F := ⟨_, rfl⟩
  have hFs : F.heap.size = w.heap.size + 3 := by rw [← hF]; simp [hDs]
  have hDF : Below D.heap.size D F := by rw [← hF]; exact (Below.refl _ _).alloc (Nat.le_refl _) _
  have cS : ∀ k, F.cell? ⟨w.heap.size + 2, k, none⟩ = #[Value.bool false, .slice (some ⟨w.heap.size + 1, 0, none⟩) 3 3, .slice none 0 0, .bool false, .slice none 0 0, .slice none 0 0][k]? := fun k => by
    have h := cell_of_row _ _ k _ _ _ (Blk.new D 25 #[.bool false, .slice (some ⟨w.heap.size + 1, 0, none⟩) 3 3, .slice none 0 0, .bool false, .slice none 0 0, .slice none 0 0])
    rw [hF, hDs] at h
    exact h
  have cD2 : ∀ k, F.cell? ⟨w.heap.size + 1, k, none⟩ = #[Value.int .u8 100, .int .u8 111, .int .u8 103][k]? := fun k => (hDF.cell (p := ⟨w.heap.size + 1, k, none⟩) (by show w.heap.size + 1 < D.heap.size; omega)).trans (cD k)
  have cI2 : ∀ k, k < 3 → F.cell? ⟨w.heap.size, k, none⟩ = #[Value.bool true, .slice none 0 0, .slice (some ⟨w.heap.size + 1 + 1, 0, none⟩) 2 2][k]? := fun k hk => (hDF.cell (p := ⟨w.heap.size, k, none⟩) (by show w.heap.size < D.heap.size; omega)).trans ((hAD.cell (p := ⟨w.heap.size, k, none⟩) (by show w.heap.size < A.heap.size; omega)).trans (cI k hk))
  have k0 : F.cell? ⟨w.heap.size, 0, none⟩ = some (.bool true) := cI2 0 (by omega)
  have k1 : F.cell? ⟨w.heap.size, 1, none⟩ = some (.slice none 0 0) := cI2 1 (by omega)
  have k2 : F.cell? ⟨w.heap.size, 2, none⟩ = some (.slice (some ⟨w.heap.size + 1 + 1, 0, none⟩) 2 2) := cI2 2 (by omega)
  have hb : Bt F.heap.size F (.slice (some ⟨w.heap.size + 1, 0, none⟩) 3 3) [100, 111, 103] := by
    refine ⟨by simp, _, _, rfl, Nat.le_refl _, by omega, .inr ⟨_, 0, rfl, fun _ => ⟨by omega, by omega⟩, fun k u hu => ?_⟩⟩
    rw [Nat.zero_add, cD2]
    match k with
    | 0 => simp at hu ⊢; omega
    | 1 => simp at hu ⊢; omega
    | 2 => simp at hu ⊢; omega
    | k + 3 => simp at hu
  have hs : Its F.heap.size F (.slice (some ⟨w.heap.size + 2, 0, none⟩) 2 2) [itB (.slice (some ⟨w.heap.size + 1, 0, none⟩) 3 3), itB (.slice none 0 0)] := by
    refine ⟨_, _, rfl, Nat.le_refl _, by omega, fun _ => ⟨_, 0, rfl, by omega, by omega, fun i v hi => ?_⟩⟩
    match i with
    | 0 => simp at hi; subst hi; exact ⟨_, _, _, _, _, _, _, rfl, cS 0, cS 1, cS 2⟩
    | 1 => simp at hi; subst hi; exact ⟨_, _, _, _, _, _, _, rfl, cS 3, cS 4, cS 5⟩
    | i + 2 => simp at hi
  rw [hI, hA, hD, hF]
  exact bodyPost_ret (v := itW true none 0 0 (some ⟨w.heap.size + 1 + 1, 0, none⟩) 2 2) (by simp [results, Tryd.results23, go_sem, k0, k1, k2]) rfl ⟨_, _, rfl, hb, hs, bstep (bstep hWA hAD) hDF⟩

set_option maxRecDepth 100000 in
set_option maxHeartbeats 4000000 in
/-- Encode of the chapter's list. -/
theorem encode_dog (S D : Nat) (w : World) (hb : Bt w.heap.size w (.slice (some ⟨D, 0, none⟩) 3 3) [100, 111, 103]) (hs : Its w.heap.size w (.slice (some ⟨S, 0, none⟩) 2 2) [itB (.slice (some ⟨D, 0, none⟩) 3 3), itB (.slice none 0 0)]) (hH : HD w) :
    Calls Tryd.prog 10 #[itW true none 0 0 (some ⟨S, 0, none⟩) 2 2] w fun e w' => ∃ y m d, e = .returned (.tuple #[.slice y m d, .int .i64 0]) ∧ Ow w' w.heap.size (.slice y m d) [197, 131, 100, 111, 103, 128] ∧ Below w.heap.size w w' := by
  have hT : ItA w.heap.size w dogT (itW true none 0 0 (some ⟨S, 0, none⟩) 2 2) := by
    refine ItA.mk true [] _ _ _ _ (Bt.nil _ _) hs rfl (by simp) (fun i t v h1 h2 => ?_)
    match i with
    | 0 => simp at h1 h2; subst h1 h2; exact ItA.bytes hb
    | 1 => simp at h1 h2; subst h1 h2; exact ItA.bytes (Bt.nil _ _)
    | i + 2 => simp at h1
  have h := encode_fits true none 0 0 (some ⟨S, 0, none⟩) 2 2 (laL [[131, 100, 111, 103], [128]]) w
    (fun X hX => by
      have h := mayBe_any 8 (Nat.le_refl _) dogT _ w.heap.size X hX.size (hT.new hX)
      rw [dog_may] at h
      exact h)
    (fun X hX => laid_list w.heap.size none 0 0 (some ⟨S, 0, none⟩) 2 2 _ [[131, 100, 111, 103], [128]] X hX.size (by simp) rfl (by rw [laL_dog]; simp) (hs.new hX) (hH.keep hX) (fun i v ys h1 h2 Y hY => by
      have hXY := bstep hX hY
      match i with
      | 0 =>
        simp at h1 h2; subst h1 h2
        have h := laid_bytes _ [100, 111, 103] w.heap.size Y (hb.new hXY) (by simp) (hH.keep hXY)
        rw [laB_dog] at h
        exact h.mono fun e w' h => h.1 (by simp)
      | 1 =>
        simp at h1 h2; subst h1 h2
        have h := laid_bytes _ [] w.heap.size Y (Bt.nil _ _) (by simp) (hH.keep hXY)
        rw [laB_nil] at h
        exact h.mono fun e w' h => h.1 (by simp)
      | i + 2 => simp at h1))
  rw [laL_dog] at h
  exact h
end Go.Proofs.YtjmfnafbjfceoaaDoor
