/- big: Bits: the bits of bytes from the highest one on. -/
import Derived.Test.YtjkniebedgiclaaDoorFz
namespace Go.Proofs.YtjkniebedgiclaaDoor
open Go.RowKit Go.Shelf
attribute [local go_sem] Oper.semAt_some
/-- The bits of a byte, falling. -/
def b8 (b : Nat) : List Bool := (List.range 8).map fun i => b.testBit (7 - i)
def fb (l : List Nat) : List Bool := l.flatMap b8
/-- From the first 1 on. -/
def em (t : List Bool) : List Bool := t.dropWhile (fun x => !x)
theorem em_snoc (t : List Bool) (x : Bool) : em (t ++ [x]) = if (!(em t).isEmpty || x) then em t ++ [x] else [] := by
  unfold em
  induction t with
  | nil => cases x <;> rfl
  | cons y t ih =>
    cases y
    · exact ih
    · rfl
theorem em_not (t : List Bool) (x : Bool) (h : (!(em t).isEmpty || x) = false) : em t = [] ∧ em (t ++ [x]) = [] := by
  rw [em_snoc, h]
  rw [Bool.or_eq_false_iff] at h
  refine ⟨?_, rfl⟩
  have h1 := h.1
  cases e : em t with
  | nil => rfl
  | cons y r => rw [e] at h1; simp at h1
theorem em_yes (t : List Bool) (x : Bool) (h : (!(em t).isEmpty || x) = true) : em (t ++ [x]) = em t ++ [x] := by rw [em_snoc, if_pos h]
theorem em_pre (t r : List Bool) : ∃ s, em (t ++ r) = em t ++ s := by
  induction r generalizing t with
  | nil => exact ⟨[], by rw [List.append_nil, List.append_nil]⟩
  | cons x r ih =>
    obtain ⟨s, hs⟩ := ih (t ++ [x])
    rw [show t ++ x :: r = t ++ [x] ++ r by simp, hs]
    cases h : (!(em t).isEmpty || x)
    · obtain ⟨h1, h2⟩ := em_not t x h
      exact ⟨s, by rw [h1, h2]⟩
    · exact ⟨[x] ++ s, by rw [em_yes t x h, List.append_assoc]⟩
theorem fb_take (l : List Nat) (k b : Nat) (h : l[k]? = some b) : fb (l.take (k + 1)) = fb (l.take k) ++ b8 b := by
  unfold fb
  rw [List.take_add_one, h, Option.toList_some, List.flatMap_append]
  simp
theorem fb_split (l : List Nat) (k : Nat) : fb l = fb (l.take k) ++ fb (l.drop k) := by
  unfold fb
  rw [← List.flatMap_append, List.take_append_drop]
theorem b8_take (b x : Nat) (hx : x ≤ 8) : (b8 b).take x = (List.range x).map fun i => b.testBit (7 - i) := by
  unfold b8
  rw [← List.map_take, List.take_range, Nat.min_eq_left hx]
theorem b8_pre (l : List Nat) (k b x : Nat) (h : l[k]? = some b) (hx : x ≤ 8) : ∃ r, fb l = fb (l.take k) ++ ((List.range x).map fun i => b.testBit (7 - i)) ++ r := by
  refine ⟨(b8 b).drop x ++ fb (l.drop (k + 1)), ?_⟩
  rw [← b8_take b x hx, fb_split l (k + 1), fb_take l k b h]
  simp only [List.append_assoc]
  rw [← List.append_assoc (List.take x (b8 b)), List.take_append_drop]

set_option maxRecDepth 100000 in
theorem each_any (b : Nat) (w : World) : Calls Tryd.prog 29 #[.int .u8 b] w fun e w' => e = .returned (.func (.func 46) #[] #[.pointer (some ⟨w.heap.size, 0, none⟩)]) ∧ w.alloc (.cells #[.int .u8 b] 5) = w' := by
  go_enter Tryd.func29, Tryd.ntmps29
  go_wp2_with fail
  go_ret
  exact ⟨rfl, rfl⟩
theorem leaves_keep {F : Fence} {n : Nat} {P : Program} {fn : Func} {tmps : Array Value} {R : Ending → World → Prop} {u : FrameMode} (hu : u ≠ .run) (Pr : World → Prop) : ∀ (ds : List Nat) (w : World), ds.Nodup → (∀ D ∈ ds, w.heap[D]? = some (.deferred (some []))) →
    (∀ X D, D ∈ ds → Pr X → Pr (X.putObj D (.deferred none))) → Pr w → (∀ w', Pr w' → LeavesIn F n P fn tmps R [] u w') → LeavesInM F n P fn tmps R (marks ds) u w
  | [], w, _, _, _, hp, h => h w hp
  | D :: ds, w, hn, hd, hP, hp, h => by
    obtain ⟨hD, hds⟩ := List.nodup_cons.1 hn
    refine ⟨hu, .inl ⟨D, _, rfl, run_takeDeferred (hd D (by simp)), ?_⟩⟩
    refine leaves_keep hu Pr ds _ hds (fun E hE => ?_) (fun X E hE => hP X E (by simp [hE])) (hP _ D (by simp) hp) h
    have hne : E ≠ D := fun e => hD (by rw [← e]; exact hE)
    rw [World.putObj_heap_other hne]
    exact hd E (by simp [hE])
/-- What holds ahead of a byte. -/
def BiR (l : List Nat) (J : List Bool → World → Prop) (B L k : Nat) (ds : List Nat) (wr : World) : Prop :=
  J (em (fb (l.take k))) wr ∧ Blk wr B 60 #[.func (.yield L) #[] #[]] ∧ Blk wr (B + 1) 4 #[.bool (!(em (fb (l.take k))).isEmpty)] ∧ ds.Nodup ∧ (∀ D ∈ ds, B + 2 ≤ D ∧ wr.heap[D]? = some (.deferred (some [])))

theorem em_full (x : List Bool) (z : Bool) : (!(x ++ [z]).isEmpty) = true := by simp
theorem def_abide {β : Type} {B : Nat} (ds : List Nat) (h : ∀ D ∈ ds, D < B) : Abide B (fun (_ : β) X => ∀ D ∈ ds, X.heap[D]? = some (.deferred (some []))) := fun _ X Y row hs hg hr D hD =>
  (hg.block D (Array.getElem?_eq_some_iff.1 (hs D hD)).1 (fun e => by have := hr D e.symm; have := h D hD; omega)).trans (hs D hD)

set_option maxRecDepth 100000 in
set_option maxHeartbeats 4000000 in
theorem bits1_in (n : Nat) (hn : 6 ≤ n) (L K n₀ B : Nat) (x0 : Option Addr) (ln c0 : Nat) (l : List Nat) (hln : l.length = ln) (hl : ln ≤ 1000) (hlb : ∀ x ∈ l, x < 256) (J Jx : List Bool → World → Prop) (w : World) (hn₀ : n₀ ≤ w.heap.size)
    (hJ : Abide w.heap.size J) (hJx : Abide w.heap.size Jx) (hBd : ∀ pre X, J pre X → Blk X K 22 #[.slice x0 ln c0] ∧ Bto B X (.slice x0 ln c0) l)
    (hY : ∀ pre (x : Bool) X, (∃ r, em (fb l) = pre ++ [x] ++ r) → J pre X → YieldAt Fence.wide 0 Tryd.prog L #[.bool x] X fun e Y => (e = .returned (.bool true) ∧ J (pre ++ [x]) Y ∧ Kept w.heap.size X Y ∧ Below n₀ X Y) ∨ (e = .returned (.bool false) ∧ Jx (pre ++ [x]) Y ∧ Kept w.heap.size X Y))
    (h0 : J [] w) :
    CallsIn Fence.wide n Tryd.prog 28 #[.func (.yield L) #[] #[], .pointer (some ⟨K, 0, none⟩)] w fun e Y => (∃ v, e = .returned v) ∧
      ((∃ xs, xs = em (fb l) ∧ J xs Y) ∨ (∃ pre, (pre ≠ [] ∧ ∃ r, em (fb l) = pre ++ r) ∧ Jx pre Y)) := by
  refine callsIn_of_wp_marks Tryd.func28 rfl trivial ?_ rfl
  simp only [Tryd.ntmps28, List.size_toArray, List.length_cons, List.length_nil, Nat.reduceAdd, Nat.reduceSub, Array.replicate_succ, Array.replicate_zero, List.push_toArray, List.append_toArray, List.nil_append, List.cons_append]
  obtain ⟨W0, hW0⟩ : ∃ W0, (w.alloc (.cells #[.func (.yield L) #[] #[]] 60)).alloc (.cells #[.bool false] 4) = W0 := ⟨_, rfl⟩
  have hB1 : Blk W0 w.heap.size 60 #[.func (.yield L) #[] #[]] := by rw [← hW0]; exact (Blk.new w _ _).alloc _
  have hB2 : Blk W0 (w.heap.size + 1) 4 #[.bool false] := by rw [← hW0]; exact Blk.newS w _ _ _
  have hj0 : J [] W0 := by rw [← hW0]; exact hJ.alloc _ (hJ.alloc _ h0)
  have hWs : W0.heap.size = w.heap.size + 2 := by rw [← hW0]; simp
  have hWb : Below w.heap.size w W0 := by rw [← hW0]; exact balloc (balloc (Below.refl _ _) _) _
  have kc := cell_of_row _ _ 0 _ _ _ (hBd _ _ hj0).1
  have HW := Lib.hid hW0
  clear hW0 h0
  gi_wp2_with fail
  refine (wpIn_wide (n := n)).2 (wp_scope_straight ((wpIn_wide (n := n)).1 ?_))
  gi_wp2_with fail
  refine wpIn_label ?_
  rw [HW.out]
  gi_wp2_with fail
  clear HW kc
  refine wpIn_loop_ghost_k (fun g a wr => ∃ (k : Nat) (ds : List Nat) (u4 u5 u6 u10 u11 u12 u13 u14 u15 u16 u17 u18 u19 u20 u21 u22 u23 u24 u25 u26 u27 : Value), g + k = ln ∧ a = { tmps := #[.func (.yield L) #[] #[], .pointer (some ⟨K, 0, none⟩), .pointer (some ⟨w.heap.size, 0, none⟩), .pointer (some ⟨w.heap.size + 1, 0, none⟩), u4, u5, u6, .slice x0 ln c0, .int .i64 (ln : Nat), .int .i64 (k : Nat), u10, u11, u12, u13, u14, u15, u16, u17, u18, u19, u20, u21, u22, u23, u24, u25, u26, u27], defers := marks ds } ∧ BiR l J w.heap.size L k ds wr) ln ⟨0, [], _, _, _, _, _, _, _, _, _, _, _, _, _, _, _, _, _, _, _, _, _, by omega, rfl, hj0, hB1, hB2, List.nodup_nil, fun D hD => (by cases hD)⟩ ?_
  clear hj0 hB1 hB2 hWb hWs
  rintro g a wr ⟨k, ds, u4, u5, u6, u10, u11, u12, u13, u14, u15, u16, u17, u18, u19, u20, u21, u22, u23, u24, u25, u26, u27, hg, rfl, hj, hb1, hb2, hnd, hds⟩ J' K' hJ' hK'
  by_cases hlt : k < ln
  · obtain ⟨b, hb⟩ : ∃ b, l[k]? = some b := ⟨_, List.getElem?_eq_getElem (by omega)⟩
    have hbl := hlb b (List.mem_of_getElem? hb)
    obtain ⟨hKc, _, xx, cc, hxx, _, _, hcells⟩ := hBd _ _ hj
    obtain ⟨kb, ko, hxk, _, hkbl, hkc⟩ := hcells (fun e => by rw [e] at hb; cases hb)
    have c1 := hkc k b hb
    injection hxx with e1 e2 e3
    rw [← e1] at hxk
    subst hxk
    have j0 : (k : Int) < (ln : Int) := by omega
    have j1 : (0 : Int) ≤ (k : Int) := by omega
    have j2 : IntKind.i64.wrap ((k : Int) + 1) = ((k + 1 : Nat) : Int) := IntWalk.i64_in _ (by omega)
    have HR := Lib.hid (And.intro hj (And.intro hb1 (And.intro hb2 (And.intro hnd (And.intro hds (And.intro hb hg))))))
    clear hj hb1 hb2 hnd hds hKc hkc hb e1 e2 e3 hcells
    --RNG
    gi_wp2_with fail
    refine ⟨trivial, fun _ => by omega, ?_⟩
    refine (callsIn_wide.2 (each_any b _)).mono ?_
    rintro e V ⟨rfl, hV⟩
    have hVs : V.heap.size = wr.heap.size + 1 := by rw [← hV]; simp
    have hgbk : Blk V wr.heap.size 5 #[.int .u8 b] := by rw [← hV]; exact Blk.new wr _ _
    have hVb : Below wr.heap.size wr V := by rw [← hV]; exact (Below.refl _ _).alloc (Nat.le_refl _) _
    obtain ⟨hj, hb1, hb2, hnd, hds, hb, hg⟩ := HR.out
    have hb1l := hb1.lt
    have hb2l := hb2.lt
    have hdl : ∀ D ∈ ds, D < V.heap.size := fun D hD => by have := (Array.getElem?_eq_some_iff.1 (hds D hD).2).1; omega
    have hjV := hJ.new hj hVb
    have hb1V := hb1.keep hVb
    have hb2V := hb2.keep hVb
    have hdV : ∀ D ∈ ds, V.heap[D]? = some (.deferred (some [])) := fun D hD => (hVb.block D (Array.getElem?_eq_some_iff.1 (hds D hD).2).1).trans (hds D hD).2
    have hgbl := hgbk.lt
    clear hV hVb hj hb1 hb2 c1
    generalize wr.heap.size = gb at hgbk hVs hgbl hb1l hb2l ⊢
    gi_wp2_with fail
    refine wpIn_rangeW (n := n) (by omega) (gf := 46) (lb := #[.pointer (some ⟨gb, 0, none⟩)]) rfl (enters_of Tryd.func46 (by kernel_rfl) rfl)
      (each_seq (n - 1) n₀ gb b (by omega) hbl V) (Below.refl _ _) (by omega) (fun _ => rfl)
      (fun (pre : List Nat) X => ((((J (em (fb (l.take k) ++ pre.map fun i => b.testBit (7 - i))) X ∧ Blk X w.heap.size 60 #[.func (.yield L) #[] #[]]) ∧ Blk X (w.heap.size + 1) 4 #[.bool (!(em (fb (l.take k) ++ pre.map fun i => b.testBit (7 - i))).isEmpty)]) ∧ Blk X gb 5 #[.int .u8 b]) ∧ ∀ D ∈ ds, X.heap[D]? = some (.deferred (some []))))
      (fun c _ X => (c = .exit 0 ∧ ∃ p, (p ≠ [] ∧ ∃ r, em (fb l) = p ++ r) ∧ Jx p X) ∧ ∀ D ∈ ds, X.heap[D]? = some (.deferred (some [])))
      (((((hJ.mono (by omega)).comp (fun pre : List Nat => em (fb (l.take k) ++ pre.map fun i => b.testBit (7 - i)))).and (Abide.blk (by omega) _ (fun _ => _))).and (Abide.blk (by omega) _ (fun pre : List Nat => #[Value.bool (!(em (fb (l.take k) ++ pre.map fun i => b.testBit (7 - i))).isEmpty)]))).and (Abide.blk (by omega) _ (fun _ => _)) |>.and (def_abide ds hdl))
      (fun c => ((Abide.pure _ (fun _ => c = .exit 0)).and (Abide.ex fun p => (Abide.pure _ (fun _ => p ≠ [] ∧ ∃ r, em (fb l) = p ++ r)).and ((hJx.mono (by omega)).comp (fun _ => p)))).and (def_abide ds hdl))
      (fun pre X h => h.1.2)
      ⟨⟨⟨⟨by simpa using hjV, hb1V⟩, by simpa using hb2V⟩, hgbk⟩, hdV⟩
      (fun x a' _ => a' = { tmps := #[.func (.yield L) #[] #[], .pointer (some ⟨K, 0, none⟩), .pointer (some ⟨w.heap.size, 0, none⟩), .pointer (some ⟨w.heap.size + 1, 0, none⟩), u4, .int .u8 (b : Nat), .bool (b.testBit (7 - x)), .slice (some ⟨kb, ko, none⟩) ln c0, .int .i64 (ln : Nat), .int .i64 (k : Nat), .bool true, .pointer (some ⟨kb, ko + k, none⟩), .int .u8 (b : Nat), .int .u8 (b : Nat), .func (.func 46) #[] #[.pointer (some ⟨gb, 0, none⟩)], .bool (b.testBit (7 - x)), u16, u17, u18, u19, u20, u21, u22, u23, u24, u25, u26, u27], defers := [] })
      (fun x a' _ X Y row hs hg hr => hs)
      ?assign ?body ?done ?stop
    case assign =>
      rintro l2 pre x X K2 _ hi hK2
      gi_wp2
      exact hK2 _ _ (Kept.refl _ _) (Below.refl _ _) hi rfl
    case body =>
      rintro l2 pre x a' X hl2 ⟨hpre, hx⟩ _ ⟨⟨⟨⟨hj, hf⟩, hre⟩, hbb⟩, hdd⟩ rfl
      have hbc := cell_of_row _ _ 0 _ _ _ hf
      have hrc := cell_of_row _ _ 0 _ _ _ hre
      have hrf := frozen_of_row _ _ 0 _ _ hre
      have hT1 : (fb (l.take k) ++ (pre ++ [x]).map fun i => b.testBit (7 - i)) = (fb (l.take k) ++ pre.map fun i => b.testBit (7 - i)) ++ [b.testBit (7 - x)] := by simp
      obtain ⟨t, ht⟩ : ∃ t, b.testBit (7 - x) = t := ⟨_, rfl⟩
      rw [ht] at hT1 ⊢
      obtain ⟨r8, hr8⟩ := b8_pre l k b (x + 1) hb (by omega)
      rw [List.range_succ, ← hpre, hT1] at hr8
      obtain ⟨s8, hs8⟩ := em_pre ((fb (l.take k) ++ pre.map fun i => b.testBit (7 - i)) ++ [t]) r8
      rw [← hr8] at hs8
      obtain ⟨TT, hTT⟩ : ∃ TT, (fb (l.take k) ++ pre.map fun i => b.testBit (7 - i)) = TT := ⟨_, rfl⟩
      rw [hTT] at hj hre hrc hs8 hT1
      have HX := Lib.hid (And.intro hj (And.intro hf (And.intro hre (And.intro hbb (And.intro hdd (And.intro hT1 hs8))))))
      obtain ⟨rc, hrcv⟩ : ∃ r, (!(em TT).isEmpty) = r := ⟨_, rfl⟩
      rw [hrcv] at hrc
      have HRC := Lib.hid hrcv
      clear hj hf hre hbb hdd hr8 hs8 hTT hrcv ht hT1
      have hw1 : w.heap.size + 1 < X.heap.size := HX.out.2.2.1.lt
      cases h2 : (rc || t)
      · have hno := em_not TT t (by rw [HRC.out]; exact h2)
        have HN := Lib.hid hno
        rw [Bool.or_eq_false_iff] at h2
        obtain ⟨rfl, rfl⟩ := h2
        clear hno
        gi_wp2_with fail
        refine ⟨fun _ h => (by cases h), ?_⟩
        gi_wp2_with fail
        obtain ⟨hj, hf, hre, hbb, hdd, hT1, hs8⟩ := HX.out
        have hG := grown_set' (grown_refl X (w.heap.size + 1)) 0 (.bool false)
        have hre2 : Blk (X.setCell ⟨w.heap.size + 1, 0, none⟩ (.bool false)) (w.heap.size + 1) 4 #[.bool false] := heap_setCell_same X (w.heap.size + 1) 0 _ _ (.bool false) hre
        refine ⟨Kept.set X (p := ⟨w.heap.size + 1, 0, none⟩) (by show w.heap.size + 1 < _; omega) _, (Below.refl _ X).setCell (p := ⟨w.heap.size + 1, 0, none⟩) (by show n₀ ≤ w.heap.size + 1; omega) _, ⟨⟨⟨?_, hf.kept hG (fun e => by injection e with e; omega)⟩, ?_⟩, hbb.kept hG (fun e => by injection e with e; omega)⟩, fun D hD => (hG.block D (Array.getElem?_eq_some_iff.1 (hdd D hD)).1 (fun e => by injection e with e; have := (hds D hD).1; omega)).trans (hdd D hD)⟩
        · rw [hT1, HN.out.2, ← HN.out.1]
          exact hJ.set 0 (.bool false) hj (by omega)
        · rw [hT1, HN.out.2]
          exact hre2
      · have hye := em_yes TT t (by rw [HRC.out]; exact h2)
        have hG := grown_set' (grown_refl X (w.heap.size + 1)) 0 (.bool true)
        have hj2 := hJ.set 0 (.bool true) HX.out.1 (show w.heap.size ≤ w.heap.size + 1 by omega)
        have hre2 : Blk (X.setCell ⟨w.heap.size + 1, 0, none⟩ (.bool true)) (w.heap.size + 1) 4 #[.bool true] := heap_setCell_same X (w.heap.size + 1) 0 _ _ (.bool true) HX.out.2.2.1
        have hf2 := HX.out.2.1.kept hG (fun e => by injection e with e; omega)
        have hbb2 := HX.out.2.2.2.1.kept hG (fun e => by injection e with e; omega)
        have hdd2 : ∀ D ∈ ds, (X.setCell ⟨w.heap.size + 1, 0, none⟩ (.bool true)).heap[D]? = some (.deferred (some [])) := fun D hD => (hG.block D (Array.getElem?_eq_some_iff.1 (HX.out.2.2.2.2.1 D hD)).1 (fun e => by injection e with e; have := (hds D hD).1; omega)).trans (HX.out.2.2.2.2.1 D hD)
        obtain ⟨fn, tmps, assign, body, hy, hR⟩ := YieldAt.wide (m' := n - 1 - 1 - 1) (hY (em TT) t _ ⟨s8, by rw [HX.out.2.2.2.2.2.2, hye]⟩ hj2)
        have hKX : Kept V.heap.size X (X.setCell ⟨w.heap.size + 1, 0, none⟩ (.bool true)) := Kept.set X (p := ⟨w.heap.size + 1, 0, none⟩) (by show w.heap.size + 1 < _; omega) _
        have hBX : Below n₀ X (X.setCell ⟨w.heap.size + 1, 0, none⟩ (.bool true)) := (Below.refl _ X).setCell (p := ⟨w.heap.size + 1, 0, none⟩) (by show n₀ ≤ w.heap.size + 1; omega) _
        obtain ⟨Z, hZ⟩ : ∃ Z, X.setCell ⟨w.heap.size + 1, 0, none⟩ (.bool true) = Z := ⟨_, rfl⟩
        rw [hZ] at hj2 hre2 hf2 hbb2 hdd2 hKX hBX
        have HY := Lib.hid (And.intro hye (And.intro hre2 (And.intro hf2 (And.intro hbb2 (And.intro hdd2 (And.intro hKX (And.intro hBX hZ)))))))
        clear hye hj2 hre2 hf2 hbb2 hdd2 hKX hBX hG hZ
        have hcomb : (rc = true ∧ t = true) ∨ (rc = true ∧ t = false) ∨ (rc = false ∧ t = true) := by cases rc <;> cases t <;> simp at h2 ⊢
        have HS8 := Lib.hid (show ∃ r, em (fb l) = em (TT ++ [t]) ++ r from ⟨s8, HX.out.2.2.2.2.2.2⟩)
        have HT1 := Lib.hid HX.out.2.2.2.2.2.1
        clear HX HRC h2
        rcases hcomb with ⟨rfl, rfl⟩ | ⟨rfl, rfl⟩ | ⟨rfl, rfl⟩
        all_goals
          gi_wp2_with fail
          refine ⟨fun _ => by omega, ?_⟩
          refine RoundIn.mono (round_at l2 hR) ?_
          obtain ⟨hye, hre2, hf2, hbb2, hdd2, hKX, hBX, hZ⟩ := HY.out
          rintro e Y (⟨rfl, hj1, hk1, hbn⟩ | ⟨rfl, hx1, hk1⟩)
          · rw [hZ] at hk1 hbn
            have hk2 : ∀ i o, w.heap.size ≤ i → Z.heap[i]? = some o → Y.heap[i]? = some o := fun i o hi ho => (hk1.2 i hi (Array.getElem?_eq_some_iff.1 ho).1).trans ho
            have HE := Lib.hid (show Kept V.heap.size X Y ∧ Below n₀ X Y ∧ ((((J (em (TT ++ [_])) Y ∧ Blk Y w.heap.size 60 #[.func (.yield L) #[] #[]]) ∧ Blk Y (w.heap.size + 1) 4 #[.bool (!(em (TT ++ [_])).isEmpty)]) ∧ Blk Y gb 5 #[.int .u8 b]) ∧ ∀ D ∈ ds, Y.heap[D]? = some (.deferred (some []))) from
              ⟨hKX.trans (hk1.mono (by omega)), hBX.trans hbn, ⟨⟨⟨by rw [hye]; exact hj1, hk2 _ _ (by omega) hf2⟩, by rw [hye, em_full]; exact hk2 _ _ (by omega) hre2⟩, hk2 _ _ (by omega) hbb2⟩, fun D hD => hk2 D _ (by have := (hds D hD).1; omega) (hdd2 D hD)⟩)
            clear hj1 hk1 hbn hk2 hye hre2 hf2 hbb2 hdd2 hKX hBX hR hy hZ
            gi_wp2_with fail
            have h := HE.out
            rw [← HT1.out] at h
            exact h
          · rw [hZ] at hk1
            have hk2 : ∀ i o, w.heap.size ≤ i → Z.heap[i]? = some o → Y.heap[i]? = some o := fun i o hi ho => (hk1.2 i hi (Array.getElem?_eq_some_iff.1 ho).1).trans ho
            have HE := Lib.hid (show Kept V.heap.size X Y ∧ Jx (em TT ++ [_]) Y ∧ ∀ D ∈ ds, Y.heap[D]? = some (.deferred (some [])) from ⟨hKX.trans (hk1.mono (by omega)), hx1, fun D hD => hk2 D _ (by have := (hds D hD).1; omega) (hdd2 D hD)⟩)
            have HQ := Lib.hid hye
            clear hx1 hk1 hk2 hye hre2 hf2 hbb2 hdd2 hKX hBX hR hy hZ
            gi_wp2_with fail
            refine ⟨HE.out.1, ⟨rfl, _, ⟨by simp, ?_⟩, HE.out.2.1⟩, HE.out.2.2⟩
            rw [← HQ.out]
            exact HS8.out
    case done =>
      rintro D xs X hD rfl ⟨⟨⟨⟨hj, hf⟩, hre⟩, hbb⟩, hdd⟩ hK
      have hfk : fb (l.take k) ++ (List.range 8).map (fun i => b.testBit (7 - i)) = fb (l.take (k + 1)) := (fb_take l k b hb).symm
      rw [hfk] at hj hre
      have hnd2 : (D :: ds).Nodup := List.nodup_cons.2 ⟨fun h => by have := hdl D h; omega, hnd⟩
      have HE := Lib.hid (show BiR l J w.heap.size L (k + 1) (D :: ds) X from ⟨hj, hf, hre, hnd2, fun E hE => by
        rcases List.mem_cons.1 hE with rfl | hE
        · exact ⟨by omega, hK⟩
        · exact ⟨(hds E hE).1, hdd E hE⟩⟩)
      clear hj hf hre hbb hdd hK hfk hnd2 hds hnd hb hdl hdV hjV hb1V hb2V hgbk
      gi_wp2_with fail
      exact Handed.intro (g - 1) (by omega) (hJ' _ _ _ ⟨k + 1, D :: ds, _, _, _, _, _, _, _, _, _, _, _, _, _, _, _, _, _, _, _, _, _, by omega, rfl, HE.out⟩)
    case stop =>
      rintro D c pre X hD _ ⟨⟨rfl, p, hp, hx⟩, hdd⟩ hK
      gi_wp2
      rw [Exit.noGoto_normal]
      have hnd2 : (D :: ds).Nodup := List.nodup_cons.2 ⟨fun h => by have := hdl D h; omega, hnd⟩
      have hdef : ∀ E ∈ D :: ds, w.heap.size ≤ E ∧ X.heap[E]? = some (.deferred (some [])) := fun E hE => by
        rcases List.mem_cons.1 hE with rfl | hE
        · exact ⟨by omega, hK⟩
        · exact ⟨by have := (hds E hE).1; omega, hdd E hE⟩
      exact leaves_keep (by simp) (Jx p) (D :: ds) X hnd2 (fun E hE => (hdef E hE).2) (fun X E hE h => hJx.put _ h (hdef E hE).1) hx (fun w' h => ⟨_, results_none rfl _ _ _, ⟨_, rfl⟩, .inr ⟨p, hp, h⟩⟩)
  · obtain rfl : k = ln := by omega
    have hT : l.take k = l := List.take_of_length_le (by omega)
    rw [hT] at hj
    clear hT
    gi_wp2_with fail
    rw [Exit.noGoto_normal]
    exact leaves_keep (by simp) (J (em (fb l))) ds wr hnd (fun E hE => (hds E hE).2) (fun X E hE h => hJ.put _ h (by have := (hds E hE).1; omega)) hj (fun w' h => ⟨_, results_none rfl _ _ _, ⟨_, rfl⟩, .inl ⟨_, rfl, h⟩⟩)
end Go.Proofs.YtjkniebedgiclaaDoor
