/- item: laid and Encode of any item that may be, as an argument lays it. -/
import Derived.Test.YtjmfnafbjfceoaaDoorYg
namespace Go.Proofs.YtjmfnafbjfceoaaDoor
open Go.RowKit Go.Shelf
attribute [local irreducible] lb wdG byA byC heL
theorem toL_mem (f : It → List Nat) (t : It) : ∀ ts : List It, t ∈ ts → (f t).length ≤ toL (ts.map f)
  | u :: ts, h => by
    unfold toL
    simp only [List.map_cons, List.flatten_cons, List.length_append]
    rcases List.mem_cons.1 h with h | h
    · subst h; omega
    · have := toL_mem f t ts h; unfold toL at this; omega
/-- laid of a tree. -/
theorem laid_tree (d : Nat) : ∀ (t : It) (v : Value) (B : Nat) (w : World), B ≤ w.heap.size → ItO B w t v → smT t → rtB d t = true → (laT d t).length ≤ 4096 → HD w →
    Calls Tryd.prog 28 #[v] w fun e w' => ∃ y m d2, e = .returned (.slice y m d2) ∧ Ow w' w.heap.size (.slice y m d2) (laT d t) ∧ Below w.heap.size w w' := by
  induction d with
  | zero => intro t v B w hB hv hs hr; simp [rtB] at hr
  | succ d ih =>
    intro t v B w hB hv hsm hr hl hH
    cases hv with
    | mk b l ts v1 iv vs h1 h2 hlen hs h0 =>
      cases hsm with
      | mk _ _ _ k1 k2 k3 =>
        cases b with
        | false =>
          obtain ⟨hb1, x, cap, rfl, hb2⟩ := h1
          obtain ⟨y, c, rfl, h2⟩ := h2
          exact laid_byteso x cap l y vs.length c B w ⟨hb1, x, cap, rfl, hb2⟩ h0 hl hH
        | true =>
          have hr' : (l.isEmpty && ts.all (rtB d)) = true := hr
          rw [Bool.and_eq_true] at hr'
          have hl' : (laL (ts.map (laT d))).length ≤ 4096 := hl
          have hh := h2
          obtain ⟨y, c, rfl, _⟩ := hh
          obtain ⟨_, x, cap, rfl, _⟩ := h1
          refine laid_listo B x l.length cap y vs.length c vs (ts.map (laT d)) w hB (by omega) (by rw [List.length_map, hlen]) hl' h2 hH ?_
          intro i v ys hv hys X hX
          rw [List.getElem?_map] at hys
          cases ht : ts[i]? with
          | none => rw [ht] at hys; cases hys
          | some t =>
            rw [ht] at hys
            cases hys
            have hmem := List.mem_of_getElem? ht
            refine ih t v B X (Nat.le_trans hB hX.size) ((hs i t v ht hv).new hX) (k3 i t ht) (List.all_eq_true.1 hr'.2 t hmem) ?_ (hH.keep hX)
            have := toL_mem (laT d) t ts hmem
            unfold laL at hl'
            rw [List.length_append] at hl'
            unfold toL at this
            omega
/-- Encode of what may be. -/
theorem encode_o (t : It) (v : Value) (B : Nat) (w : World) (hB : B ≤ w.heap.size) (hv : ItO B w t v) (hsm : smT t) (hr : rtB 8 t = true) (hl : (laT 8 t).length ≤ 4096) (hH : HD w) :
    Calls Tryd.prog 10 #[v] w fun e w' => ∃ y m d, e = .returned (.tuple #[.slice y m d, .int .i64 0]) ∧ Ow w' w.heap.size (.slice y m d) (laT 8 t) ∧ Below w.heap.size w w' := by
  obtain ⟨b, x, m, c, y, n, d, rfl⟩ := hv.is
  refine encode_fits b x m c y n d (laT 8 t) w (fun X hX => ?_) (fun X hX => laid_tree 8 t _ B X (Nat.le_trans hB hX.size) (hv.new hX) hsm hr hl (hH.keep hX))
  have h := mayBe_o 8 (by omega) t _ B X (Nat.le_trans hB hX.size) (hv.new hX) hsm
  rw [hr] at h
  exact h

set_option maxRecDepth 100000 in
set_option maxHeartbeats 2000000 in
/-- Encode of what may not be. -/
theorem encode_noto (t : It) (v : Value) (B : Nat) (w : World) (hB : B ≤ w.heap.size) (hv : ItO B w t v) (hsm : smT t) (hr : rtB 8 t = false) :
    Calls Tryd.prog 10 #[v] w fun e w' => e = .returned (.tuple #[.slice none 0 0, .int .i64 2]) ∧ Below w.heap.size w w' := by
  have hmf : ∀ (fn : Fn) (first cap : Array Value) (w : World), (Instr.makeFunc fn first cap).run Tryd.prog w = .ok (.func fn first cap) w := fun _ _ _ _ => rfl
  obtain ⟨b, x, m, c, y, n, d, rfl⟩ := hv.is
  have hW := balloc (Below.refl w.heap.size w) (.cells #[.bool b, .slice x m c, .slice y n d] 25)
  have h := mayBe_o 8 (by omega) t _ B _ (Nat.le_trans hB hW.size) (hv.new hW) hsm
  rw [hr] at h
  have HM := Lib.hid h
  have HW := Lib.hid hW
  clear h hW hv
  go_enter Tryd.func10, Tryd.ntmps10
  go_wp2_with fail
  refine HM.out.mono ?_
  rintro e w1 ⟨rfl, h1⟩
  rename_i K hK
  refine hK _ _ ?_
  clear hK K
  have HX := Lib.hid (bstep HW.out h1)
  clear HW HM h1
  go_wp2_with fail
  exact bodyPost_ret (v := .tuple #[.slice none 0 0, .int .i64 2]) (by simp [results, Tryd.results10, go_sem]) rfl ⟨rfl, HX.out⟩
end Go.Proofs.YtjmfnafbjfceoaaDoor
