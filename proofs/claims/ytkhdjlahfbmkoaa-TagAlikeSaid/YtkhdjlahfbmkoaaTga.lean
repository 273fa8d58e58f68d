/- tag: lists of cells in memory; a cell of a byte and labels. -/
import Derived.Test.YtkhdjlahfbmkoaaGe
import Derived.Test.YtkhdjlahfbmkoaaVa
import Derived.Test.YtkhdjlahfbmkoaaRa
import Derived.Deep.MidRow
import Derived.Deep.WholeRow
import Derived.RegionTactic
namespace Go.Proofs.Ytkhdjlahfbmkoaa
open Go.RowKit Go.Shelf

/-- Cells as values. -/
def cvs (l : List (Nat × Nat)) : List Value := l.flatMap fun a => [.int .u8 (a.1 : Nat), .int .u64 (a.2 : Nat)]
theorem cvs_len (l : List (Nat × Nat)) : (cvs l).length = l.length * 2 := by
  induction l with
  | nil => rfl
  | cons a l ih => show (_ :: _ :: cvs l).length = _; simp only [List.length_cons, ih]; omega
theorem cvs_app (l m : List (Nat × Nat)) : cvs l ++ cvs m = cvs (l ++ m) := by unfold cvs; rw [List.flatMap_append]
theorem cvs_get0 (l : List (Nat × Nat)) : ∀ k, (cvs l)[k * 2]? = (l[k]?).map fun a => Value.int .u8 (a.1 : Nat) := by
  induction l with
  | nil => intro k; simp [cvs]
  | cons a l ih =>
    intro k
    show (_ :: _ :: cvs l)[k * 2]? = _
    cases k with
    | zero => rfl
    | succ k => rw [show (k + 1) * 2 = k * 2 + 1 + 1 by omega, List.getElem?_cons_succ, List.getElem?_cons_succ, ih, List.getElem?_cons_succ]
theorem cvs_get1 (l : List (Nat × Nat)) : ∀ k, (cvs l)[k * 2 + 1]? = (l[k]?).map fun a => Value.int .u64 (a.2 : Nat) := by
  induction l with
  | nil => intro k; simp [cvs]
  | cons a l ih =>
    intro k
    show (_ :: _ :: cvs l)[k * 2 + 1]? = _
    cases k with
    | zero => rfl
    | succ k => rw [show (k + 1) * 2 + 1 = (k * 2 + 1) + 1 + 1 by omega, List.getElem?_cons_succ, List.getElem?_cons_succ, ih, List.getElem?_cons_succ]
theorem cvs_set (l : List (Nat × Nat)) (a : Nat × Nat) : ∀ k, (((cvs l).set (k * 2) (.int .u8 (a.1 : Nat))).set (k * 2 + 1) (.int .u64 (a.2 : Nat))) = cvs (l.set k a) := by
  induction l with
  | nil => intro k; simp [cvs]
  | cons b l ih =>
    intro k
    show ((_ :: _ :: cvs l).set _ _).set _ _ = _
    cases k with
    | zero => rfl
    | succ k =>
      rw [show (k + 1) * 2 = k * 2 + 1 + 1 by omega, show k * 2 + 1 + 1 + 1 = (k * 2 + 1) + 1 + 1 by omega]
      simp only [List.set_cons_succ]
      rw [ih]; rfl
def okC (a : Nat × Nat) : Prop := a.1 < 256 ∧ a.2 < 18446744073709551616
/-- A slice that reads as these cells; where it holds none, nothing is said of its place. -/
def Cs (B : Nat) (X : World) (v : Value) (l : List (Nat × Nat)) : Prop := (∀ a ∈ l, okC a) ∧ ∃ x cap, v = .slice x l.length cap ∧ l.length ≤ cap ∧ l.length ≤ 9223372036854775807 ∧ (l ≠ [] → ∃ b o, x = some ⟨b, o, none⟩ ∧ b < B ∧ b < X.heap.size ∧ ∀ k a, l[k]? = some a → X.cell? ⟨b, o + k * 2, none⟩ = some (.int .u8 (a.1 : Nat)) ∧ X.cell? ⟨b, o + k * 2 + 1, none⟩ = some (.int .u64 (a.2 : Nat)))
theorem Cs.kept {B : Nat} {X Y : World} {v : Value} {l : List (Nat × Nat)} (h : Cs B X v l) (hs : X.heap.size ≤ Y.heap.size) (hk : ∀ b, b < B → b < X.heap.size → Y.heap[b]? = X.heap[b]?) : Cs B Y v l := by
  obtain ⟨h1, x, cap, h2, h3, h4, h5⟩ := h
  refine ⟨h1, x, cap, h2, h3, h4, fun hl => ?_⟩
  obtain ⟨b, o, e, hb, hbx, hc⟩ := h5 hl
  refine ⟨b, o, e, hb, Nat.lt_of_lt_of_le hbx hs, fun k u hu => ?_⟩
  have hh := hk b hb hbx
  rw [← (hc k u hu).1, ← (hc k u hu).2]; exact ⟨cell_heap hh, cell_heap hh⟩
theorem Cs.new {B : Nat} {X Y : World} {v : Value} {l : List (Nat × Nat)} (h : Cs B X v l) (k : Below X.heap.size X Y) : Cs B Y v l := h.kept k.size fun b _ hx => k.block b hx
theorem Cs.below {B n : Nat} {X Y : World} {v : Value} {l : List (Nat × Nat)} (h : Cs B X v l) (hB : B ≤ n) (k : Below n X Y) : Cs B Y v l := h.kept k.size fun b hb _ => k.block b (by omega)
theorem Cs.mono {B C : Nat} {X : World} {v : Value} {l : List (Nat × Nat)} (h : Cs B X v l) (hB : B ≤ C) : Cs C X v l := by
  obtain ⟨h1, x, cap, h2, h3, h4, h5⟩ := h
  refine ⟨h1, x, cap, h2, h3, h4, fun hl => ?_⟩
  obtain ⟨b, o, e, hb, hbx, hc⟩ := h5 hl
  exact ⟨b, o, e, by omega, hbx, hc⟩
theorem Cs.of_blk {X : World} {g : Nat} {t : TypeId} {l : List (Nat × Nat)} (h : Blk X g t (cvs l).toArray) (h1 : ∀ a ∈ l, okC a) (hl : l.length ≤ 9223372036854775807) : Cs X.heap.size X (.slice (some ⟨g, 0, none⟩) l.length l.length) l :=
  ⟨h1, _, _, rfl, Nat.le_refl _, hl, fun _ => ⟨g, 0, rfl, h.lt, h.lt, fun k u hu => by
    rw [Nat.zero_add, cell_of_row _ _ _ _ _ _ h, cell_of_row _ _ _ _ _ _ h, List.getElem?_toArray, List.getElem?_toArray, cvs_get0, cvs_get1, hu]; exact ⟨rfl, rfl⟩⟩⟩
theorem LsA.one (w : World) (a : Nat) (ha : a < 2 ^ 64) (t : TypeId) : LsA (w.alloc (.cells #[.int .u64 (a : Nat)] t)) (.slice (some ⟨w.heap.size, 0, none⟩) 1 1) [a] := by
  refine ⟨some ⟨w.heap.size, 0, none⟩, 1, rfl, ⟨by simp, fun x hx => by simp at hx; subst hx; assumption⟩, fun _ => ⟨w.heap.size, 0, rfl, by simp, fun k x hk => ?_⟩⟩
  have hN := Blk.new w t #[.int .u64 (a : Nat)]
  match k, hk with
  | 0, hk => simp at hk; subst hk; exact cell_of_row _ _ 0 _ _ _ hN
  | k + 1, hk => simp at hk
/-- A cell as a value. -/
abbrev cV (b a : Nat) : Value := .agg #[.int .u8 (b : Nat), .int .u64 (a : Nat)]
abbrev cA (b a : Nat) : Array Value := #[.int .u8 (b : Nat), .int .u64 (a : Nat)]
noncomputable def ceF (i : Nat) : Field := match Try.prog.underlying 53 with
  | some (.struct fs) => (fs[i]?).getD default
  | _ => default
theorem undce : Try.prog.underlying 53 = some (.struct #[ceF 0, ceF 1]) := by kernel_rfl
theorem ceF0 : (ceF 0).type = 5 ∧ (ceF 0).offset = 0 := ⟨by kernel_rfl, by kernel_rfl⟩
theorem ceF1 : (ceF 1).type = 27 ∧ (ceF 1).offset = 1 := ⟨by kernel_rfl, by kernel_rfl⟩
theorem info_cell : (Try.prog.info? 53).map (·.size) = some 2 := by kernel_rfl
/-- The end of a function that answers a cell which lies in a box. -/
theorem ret_cell {fn : Func} {p : Tmp} {tmps : Array Value} {X : World} {g b a : Nat} (h : fn.results = #[.cell p 53]) (hp : tmps.getD p undef = .pointer (some ⟨g, 0, none⟩)) (hb : Blk X g 53 (cA b a)) : (results fn tmps).run Try.prog X = .ok (cV b a) X := by
  exact results_cell_row h _ _ g 53 (cA b a) (0, 0) _ hp hb undce rfl (by rw [info_cell]; rfl)
set_option maxRecDepth 100000 in
set_option maxHeartbeats 1000000 in
theorem cell_any (b : Nat) (l : List Nat) (v : Value) (w : World) (hl : LsA w v l) :
    Calls Try.prog 33 #[.int .u8 (b : Nat), v] w fun e w' => e = .returned (cV b (joinL l)) ∧ Below w.heap.size w w' := by
  have HL := Lib.hid (join_any l v _ (hl.keep (balloc (Below.refl w.heap.size w) (.cells #[.int .u8 0, .int .u64 0] 53))))
  clear hl
  go_enter Try.func33, Try.ntmps33
  go_wp2_with (first | (go_at_call 36; refine (HL.out).mono ?_; rintro e w' ⟨rfl, rfl⟩) | fail)
  (try simp only [Exit.inBlock, Exit.then])
  exact bodyPost_ret (ret_cell rfl rfl (Blk.new w 53 (cA b (joinL l)))) rfl ⟨rfl, balloc (Below.refl _ _) _⟩
theorem joinL_one (a : Nat) : joinL [a] = a := by simp [joinL]
theorem LsA.drew' {X : World} {v : Value} {l : List Nat} (h : LsA X v l) : LsA X.drew v l := h
/-- One block R of n cells alone may be written, and what is new. -/
def HelN (n : Nat) (t : TypeId) (W1 : World) (R : Nat) (w' : World) : Prop := W1.grownBy w' (some R) ∧ ∃ cs, cs.size = n ∧ Blk w' R t cs
def cellV (w' : World) (p : Addr) : Value := (w'.cell? p).getD undef
theorem HelN.cell {n : Nat} {t : TypeId} {W1 w' : World} {R : Nat} (h : HelN n t W1 R w') (k : Nat) (hk : k < n) : w'.cell? ⟨R, k, none⟩ = some (cellV w' ⟨R, k, none⟩) := by
  obtain ⟨_, cs, hs, hb⟩ := h
  have := cell_of_row w' R k _ _ _ hb
  rw [Array.getElem?_eq_getElem (by omega)] at this
  unfold cellV
  rw [this]; rfl
theorem HelN.frozen {n : Nat} {t : TypeId} {W1 w' : World} {R : Nat} (h : HelN n t W1 R w') (k : Nat) : w'.frozen? ⟨R, k, none⟩ = false := by
  obtain ⟨_, cs, hs, hb⟩ := h
  exact frozen_of_row w' R k _ _ hb
theorem HelN.at {n : Nat} {t : TypeId} {W1 w' : World} {R : Nat} {p : Addr} {v : Value} (h : HelN n t W1 R w') (hv : W1.cell? p = some v) (hne : p.block ≠ R) : w'.cell? p = some v := (cell_heap (h.1.block p.block (World.block_lt_of_cell? W1 _ hv) (fun e => hne (Option.some.inj e)))).trans hv
theorem HelN.start {n : Nat} {t : TypeId} {W1 : World} {R : Nat} {cs : Array Value} (hs : cs.size = n) (h : Blk W1 R t cs) : HelN n t W1 R W1.drew := ⟨grown_drew (grown_refl W1 R), cs, hs, h⟩
theorem HelN.call {n : Nat} {t : TypeId} {W1 w' w'' : World} {R : Nat} (k : Below w'.heap.size w' w'') (h : HelN n t W1 R w') : HelN n t W1 R w'' := by
  obtain ⟨hg, cs, hs, hb⟩ := h
  exact ⟨hg.trans (grownSome (grownNone k)), cs, hs, hb.keep k⟩
theorem HelN.set {n : Nat} {t : TypeId} {W1 w' : World} {R : Nat} (h : HelN n t W1 R w') (k : Nat) (v : Value) : HelN n t W1 R (w'.setCell ⟨R, k, none⟩ v) := by
  obtain ⟨hg, cs, hs, hb⟩ := h
  exact ⟨grown_set' hg k v, _, by rw [Array.size_setIfInBounds]; exact hs, heap_setCell_same _ _ _ _ _ v hb⟩
theorem HelN.below {m : Nat} {t : TypeId} {w W1 w' : World} {R n : Nat} (h : HelN m t W1 R w') (hb : Below n w W1) (hn : n ≤ w.heap.size) (hR : n ≤ R) : Below n w w' := step_world hb h.1 hn hR
theorem HelN.two {t : TypeId} {W1 w' : World} {R : Nat} (h : HelN 2 t W1 R w') (u v : Value) : Blk ((w'.setCell ⟨R, 0, none⟩ u).setCell ⟨R, 1, none⟩ v) R t #[u, v] := by
  obtain ⟨hg, cs, hs, hb⟩ := h
  have h1 := heap_setCell_same _ _ 1 _ _ v (heap_setCell_same w' R 0 cs _ u hb)
  have e : (cs.setIfInBounds 0 u).setIfInBounds 1 v = #[u, v] := by
    obtain ⟨l⟩ := cs
    match l, hs with
    | [x, y], _ => rfl
  rwa [e] at h1
set_option maxRecDepth 100000 in
set_option maxHeartbeats 1000000 in
theorem of1_any (a x k pa pb g o n c : Nat) (w : World) (ha : a < 2 ^ 64) (hk : k < n) (hpb : w.cell? ⟨pb, 0, none⟩ = some (.slice (some ⟨g, o, none⟩) n c)) (hpa : w.cell? ⟨pa, 0, none⟩ = some (.int .u64 (a : Nat))) (hx : w.cell? ⟨g, o + k, none⟩ = some (.int .u8 (x : Nat))) :
    Calls Try.prog 32 #[.int .i64 k, .pointer (some ⟨pb, 0, none⟩), .pointer (some ⟨pa, 0, none⟩)] w fun e w' => e = .returned (cV x a) ∧ Below w.heap.size w w' := by
  have hkn : (k : Int) < (n : Int) := by omega
  obtain ⟨W, hW⟩ : ∃ W, w.alloc (.cells #[.int .u8 0, .int .u64 0] 53) = W := ⟨_, rfl⟩
  have hal : Below w.heap.size w W := by rw [← hW]; exact balloc (Below.refl w.heap.size w) _
  have hN : Blk W w.heap.size 53 #[.int .u8 0, .int .u64 0] := by rw [← hW]; exact Blk.new w _ _
  have l1 : ∀ w', HelN 2 53 W w.heap.size w' → w'.cell? ⟨pb, 0, none⟩ = some (.slice (some ⟨g, o, none⟩) n c) := fun w' h => h.at ((hal.cell (p := ⟨pb, 0, none⟩) (World.block_lt_of_cell? w _ hpb)).trans hpb) (Nat.ne_of_lt (World.block_lt_of_cell? w _ hpb))
  have l2 : ∀ w', HelN 2 53 W w.heap.size w' → w'.cell? ⟨pa, 0, none⟩ = some (.int .u64 (a : Nat)) := fun w' h => h.at ((hal.cell (p := ⟨pa, 0, none⟩) (World.block_lt_of_cell? w _ hpa)).trans hpa) (Nat.ne_of_lt (World.block_lt_of_cell? w _ hpa))
  have l3 : ∀ w', HelN 2 53 W w.heap.size w' → w'.cell? ⟨g, o + k, none⟩ = some (.int .u8 (x : Nat)) := fun w' h => h.at ((hal.cell (p := ⟨g, o + k, none⟩) (World.block_lt_of_cell? w _ hx)).trans hx) (Nat.ne_of_lt (World.block_lt_of_cell? w _ hx))
  have l4 : ∀ w', HelN 2 53 W w.heap.size w' → w'.cell? ⟨w.heap.size, 0, none⟩ = some (cellV w' ⟨w.heap.size, 0, none⟩) := fun w' h => h.cell 0 (by omega)
  have l5 : ∀ w', HelN 2 53 W w.heap.size w' → w'.cell? ⟨w.heap.size, 1, none⟩ = some (cellV w' ⟨w.heap.size, 1, none⟩) := fun w' h => h.cell 1 (by omega)
  have l6 : ∀ w', HelN 2 53 W w.heap.size w' → w'.frozen? ⟨w.heap.size, 0, none⟩ = false := fun w' h => h.frozen 0
  have l7 : ∀ w', HelN 2 53 W w.heap.size w' → w'.frozen? ⟨w.heap.size, 1, none⟩ = false := fun w' h => h.frozen 1
  have h0 : HelN 2 53 W w.heap.size W.drew := HelN.start rfl hN
  have HW := Lib.hid (And.intro hW (And.intro hal hN))
  clear hpb hpa hx hW hal hN
  go_enter Try.func32, Try.ntmps32
  go_upto_region 1 with fail
  rw [HW.out.1]
  go_region_held3 (fun w' => HelN 2 53 W w.heap.size w') (first | assumption | exact HelN.call (by assumption) (by assumption) | exact HelN.call (balloc (Below.refl _ _) _) (by assumption) | exact HelN.set (HelN.set (by assumption) _ _) _ _) (first | (go_at_call 33; (first | refine (cell_any x [a] _ _ (LsA.one _ a ha _)).mono ?_ | refine (cell_any x [a] _ _ (LsA.one _ a ha _).drew').mono ?_); rintro e w1 ⟨rfl, hw1⟩; have hH : HelN 2 53 W w.heap.size w1 := HelN.call hw1 (by assumption)))
  all_goals
    go_wp2_with fail
    (try simp only [Exit.inBlock, Exit.then])
    refine bodyPost_ret (ret_cell (a := joinL [a]) rfl rfl (HelN.two (by assumption) _ _)) rfl ⟨by rw [joinL_one], HelN.below (by assumption) HW.out.2.1 (Nat.le_refl _) (Nat.le_refl _)⟩
end Go.Proofs.Ytkhdjlahfbmkoaa
