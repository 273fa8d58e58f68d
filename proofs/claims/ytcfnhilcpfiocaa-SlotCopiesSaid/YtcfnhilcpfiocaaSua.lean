/- slot: All of no storage. -/
import Derived.Test.YtcfnhilcpfiocaaStz
import Derived.Laws.IdiomRangeMap
namespace Go.Proofs.Ytcfnhilcpfiocaa
open Go.RowKit Go.Shelf Go.ChangeMaps Go.MapKept

/-- No key. -/
def nM : Nat → Option (Nat × Nat) := fun _ => none
theorem nM_many (xs : List Nat) (_ : xs.Nodup) (h : ∀ x ∈ xs, x < MM ∧ nM x ≠ none) : xs.length ≤ 1000000 := by
  cases xs with
  | nil => simp
  | cons a l => exact absurd rfl (h a (List.mem_cons_self ..)).2
set_option maxRecDepth 100000 in
theorem keysN_in (n : Nat) (_hn : 6 ≤ n) (L A1 : Nat) (J Jx : List Nat → World → Prop) (w : World) (hA : Blk w A1 41 #[.map none]) (hJ : StayM (fun k => k = w.heap.size) J) (h0 : J [] w) :
    CallsIn Fence.wide n Try.prog 50 #[.func (.yield L) #[] #[], .pointer (some ⟨A1, 0, none⟩)] w fun e Y => (∃ v, e = .returned v) ∧
      ((∃ xs, ((∀ k, k ∈ xs ↔ nM k ≠ none) ∧ xs.Nodup) ∧ J xs Y) ∨ (∃ pre, True ∧ Jx pre Y)) := by
  have cA1 := cell_of_row _ _ 0 _ _ _ hA
  have hrun := run_range_nilMap (P := Try.prog) w 41 _ _ und_mq
  have hnx := fun ty => run_next_nilMap (P := Try.prog) w ty 0 0 #[]
  have hj := hJ.alloc (.mapIter none 0 #[] 0) h0
  have HJ := Lib.hid hj
  clear hJ h0 hA hj
  refine callsIn_of_wp Try.func50 rfl trivial ?_ rfl
  simp only [Try.ntmps50, List.size_toArray, List.length_cons, List.length_nil, Nat.reduceAdd, Nat.reduceSub, Array.replicate_succ, Array.replicate_zero, List.push_toArray, List.append_toArray, List.nil_append, List.cons_append]
  gi_wp2_with fail
  obtain ⟨V, hV⟩ : ∃ V, w.alloc (.mapIter none 0 #[] 0) = V := ⟨_, rfl⟩
  rw [hV] at HJ hnx ⊢
  clear hrun hV cA1
  gi_loopw [] (fun w2 => w2 = V) (fun _ => 0)
  case atStart => exact rfl
  case round =>
    obtain rfl := hrel
    gi_wp2_with fail
    go_end0
    exact ⟨⟨_, rfl⟩, .inl ⟨[], ⟨fun k => ⟨fun h => (by cases h), fun h => absurd rfl h⟩, List.nodup_nil⟩, HJ.out⟩⟩
/-- The iterator over a nil map's keys in one world. -/
theorem keysN_at (n : Nat) (hn : 6 ≤ n) (A1 n₀ R : Nat) (Wo : World) (hR : Wo.heap.size = R) (_hn₀ : n₀ ≤ R) (hA : Blk Wo A1 41 #[.map none]) :
    SeqAt n Try.prog 50 #[.pointer (some ⟨A1, 0, none⟩)] (fun x : Nat => #[W x]) n₀ (fun k => k = R) (fun pre x => x < MM ∧ nM x ≠ none ∧ x ∉ pre) (fun xs => (∀ k, k ∈ xs ↔ nM k ≠ none) ∧ xs.Nodup) (fun _ => True) Wo := fun l J Jx hJ _ _ h0 => by
  subst hR
  exact keysN_in n hn l A1 J Jx Wo hA hJ h0
attribute [local go_sem] Oper.semAt_some
set_option maxRecDepth 100000 in
set_option maxHeartbeats 400000 in
theorem appendSeq_nil (A1 : Nat) (w : World) (hA : Blk w A1 41 #[.map none]) :
    Calls Try.prog 55 #[.slice none 0 0, .func (.func 50) #[] #[.pointer (some ⟨A1, 0, none⟩)]] w fun e w' => ∃ v xs, e = .returned v ∧ OwW w' w.heap.size v xs ∧ xs.Nodup ∧ (∀ k, k ∈ xs ↔ nM k ≠ none) ∧ (∀ k ∈ xs, k < MM) ∧ Below w.heap.size w w' := by
  refine (callsIn_wide (n := 20)).1 ?_
  refine callsIn_of_wp_marks Try.func55 rfl trivial ?_ rfl
  simp only [Try.ntmps55, List.size_toArray, List.length_cons, List.length_nil, Nat.reduceAdd, Nat.reduceSub, Array.replicate_succ, Array.replicate_zero, List.push_toArray, List.append_toArray, List.nil_append, List.cons_append]
  refine (wpIn_wide (n := 20)).2 ?_
  go_wp2_with fail
  refine (wpIn_wide (n := 20)).1 ?_
  obtain ⟨W0, hW0⟩ : ∃ W0, w.alloc (.cells #[.slice none 0 0] 68) = W0 := ⟨_, rfl⟩
  have hB0 : Below w.heap.size w W0 := by rw [← hW0]; exact balloc (Below.refl _ _) _
  have hO0 : Blk W0 w.heap.size 68 #[.slice none 0 0] := by rw [← hW0]; exact Blk.new _ _ _
  have hs0 : W0.heap.size = w.heap.size + 1 := by rw [← hW0]; simp
  have hA0 := hA.keep hB0
  rw [hW0]
  clear hW0 hA
  obtain ⟨O, hO⟩ : ∃ O, w.heap.size = O := ⟨_, rfl⟩
  rw [hO] at hB0 hO0 hs0 ⊢
  have hI0 : ApI O nM w [] W0 := ⟨⟨_, hO0, World.ownsRow_nil _ _ _ _⟩, List.nodup_nil, fun x h => (by cases h), hB0, by omega⟩
  have hstay : StayM (fun k => k = O + 3 ∨ k = W0.heap.size ∨ k = W0.heap.size + 1) (ApI O nM w) := by rw [hs0]; exact ApI.stay
  have HS := Lib.hid (And.intro hs0 (And.intro hO nM_many))
  have HST := Lib.hid hstay
  clear hO
  refine wpIn_rangeR (n := 20) (by omega) (gf := 50) (lb := #[.pointer (some ⟨A1, 0, none⟩)]) (M := fun k => k = O + 3) rfl (enters_of Try.func50 (by kernel_rfl) rfl)
    (fun Wo hbel hsz => keysN_at (20 - 1) (by omega) A1 O (O + 3) Wo (by rw [hsz, hs0]) (by omega) (hA0.keep hbel)) (by omega) (fun k h => by omega) (fun _ => rfl)
    (ApI O nM w) (fun _ _ _ => False) hstay (fun _ _ _ _ _ h _ _ => h) hI0
    (fun x a' X => ∃ g, (O + 2 < g ∧ a' = { tmps := #[.slice none 0 0, .func (.func 50) #[] #[.pointer (some ⟨A1, 0, none⟩)], .pointer (some ⟨O, 0, none⟩), undef, .slice none 0 0, .pointer (some ⟨g, 0, none⟩), .func (.func 50) #[] #[.pointer (some ⟨A1, 0, none⟩)], W x, undef, undef, undef, undef, undef], defers := [] }) ∧ Blk X g 25 (Wc x))
    (fun x a' _ X Y row h hg hr => by obtain ⟨g, h1, h2⟩ := h; exact ⟨g, h1, h2.kept hg (fun e => by have := hr _ e.symm; omega)⟩)
    ?assign ?body ?done ?stop
  case assign =>
    rintro l2 pre x X K _ hll hi hK
    have HK := Lib.hid (And.intro hll hK)
    clear hll hK hstay hI0
    gi_wp2_with fail
    exact HK.out.2 _ _ (KeptM.alloc _ _ _) ((Below.refl O X).alloc (by have := hi.2.2.2.2; omega) _) (HST.out.alloc _ hi) ⟨X.heap.size, ⟨by have := HK.out.1; have := HS.out.1; omega, rfl⟩, Blk.new _ _ _⟩
  case done =>
    rintro D xs X rfl hS hi hK
    obtain ⟨⟨v, h1, h2⟩, hnd, hmem, hbw, hsz⟩ := hi
    have hgD : X.grownBy (X.putObj W0.heap.size (.deferred none)) (some W0.heap.size) := grownBy_putObj' X _ _
    have hYo : OwW (X.putObj W0.heap.size (.deferred none)) O v xs := (World.ownsRow.mono h2 (show O ≤ O + 4 by omega)).kept hgD (.inr (h2.far (by have := HS.out.1; omega)))
    have hBD : Below O w (X.putObj W0.heap.size (.deferred none)) := hbw.trans (below_put X _ (by have := HS.out.1; omega))
    have cL := cell_of_row X _ 0 _ _ _ h1
    have HE := Lib.hid (And.intro hYo (And.intro hBD (And.intro hS hmem)))
    clear hYo hBD h1 h2 hnd hmem hbw hgD hS hstay hI0
    go_wp2_with fail
    refine ⟨by simp, .inl ⟨_, _, rfl, run_takeDeferred hK, ?_⟩⟩
    exact ⟨_, by simp [results, Try.results55, go_sem], v, xs, rfl, by rw [HS.out.2.1]; exact HE.out.1, HE.out.2.2.1.2, HE.out.2.2.1.1, fun k hk => (HE.out.2.2.2 k hk).1, by rw [HS.out.2.1]; exact HE.out.2.1⟩
  case stop =>
    rintro D c pre X hD _ h hK
    exact h.elim
  case body =>
    rintro l2 pre x a' X hl2 hgd hlo hi ⟨g, ⟨hg3, rfl⟩, hG⟩
    obtain ⟨⟨v, h1, h2⟩, hnd, hmem, hbw, hsz⟩ := hi
    have hgl := hG.lt
    obtain ⟨xl, cl, rfl⟩ := h2.is
    obtain ⟨y, c, w', hr, ho, hgr⟩ := app_word X (O + 4) _ pre x 68 h2 (by omega) (HS.out.2.2 pre hnd hmem)
    have hfar := h2.far (show O < O + 4 by omega)
    have h3 : Blk w' O 68 #[.slice xl pre.length cl] := (h1.alloc _).kept hgr (fun e => hfar e.symm)
    have cL := cell_of_row X _ 0 _ _ _ h1
    have k0 := cell_of_row X _ 0 _ _ _ hG
    have k1 := cell_of_row X _ 1 _ _ _ hG
    have k2 := cell_of_row X _ 2 _ _ _ hG
    have k3 := cell_of_row X _ 3 _ _ _ hG
    have c3 := cell_of_row w' _ 0 _ _ _ h3
    have f3 := frozen_of_row w' _ 0 _ _ h3
    have hk : KeptM (fun k => k = O + 3 ∨ k = W0.heap.size ∨ k = W0.heap.size + 1) X (w'.setCell ⟨O, 0, none⟩ (.slice y (pre.length + 1 : Nat) c)) := by
      have q1 : KeptM (fun k => k = O + 3 ∨ k = W0.heap.size ∨ k = W0.heap.size + 1) X (X.alloc (.cells (Wc x) 25)) := KeptM.alloc _ _ _
      refine (q1.trans (KeptM.grown hgr (fun r e h => ?_))).trans (KeptM.grown (grown_set' (grown_refl w' O) 0 _) (fun r e h => ?_))
      · have := (h2.lt r e).1; have := HS.out.1; rcases h with h | h | h <;> omega
      · cases e; have := HS.out.1; rcases h with h | h | h <;> omega
    have hbz : Below O X (w'.setCell ⟨O, 0, none⟩ (.slice y (pre.length + 1 : Nat) c)) := (((Below.refl O X).alloc (by omega) _).grown hgr (by simp; omega) (fun r e => by have := (h2.lt r e).1; omega)).grown (grown_set' (grown_refl w' O) 0 _) (by have := h3.lt; omega) (fun r e => by cases e; omega)
    have hoz : OwW (w'.setCell ⟨O, 0, none⟩ (.slice y (pre.length + 1 : Nat) c)) (O + 4) (.slice y (pre.length + 1 : Nat) c) (pre ++ [x]) := ho.kept (grown_set' (grown_refl w' O) 0 _) (fun r e => by cases e; omega)
    have hIz : ApI O nM w (pre ++ [x]) (w'.setCell ⟨O, 0, none⟩ (.slice y (pre.length + 1 : Nat) c)) := ⟨⟨_, heap_setCell_same w' O 0 _ _ _ h3, hoz⟩, List.nodup_append.2 ⟨hnd, by simp, fun a ha d hc => by simp at hc; subst hc; exact fun e => hgd.2.2 (e ▸ ha)⟩, fun a ha => by
      rcases List.mem_append.1 ha with h | h
      · exact hmem a h
      · simp at h; subst h; exact ⟨hgd.1, hgd.2.1⟩, hbw.trans hbz, Nat.le_trans hsz hk.1⟩
    have HE := Lib.hid (And.intro hk (And.intro hbz hIz))
    clear hk hbz hIz hoz h1 h2 h3 hnd hmem hbw hsz hgl ho hgr hfar hgd hlo hl2 hG hstay hI0
    have HR := Lib.hid hr
    clear hr
    gi_wp2_with (first | (refine wpIn_append_run (.tmp 8) (.tmp 10) 68 rfl (v := .slice xl pre.length cl) (u := .slice (some ⟨X.heap.size, 0, none⟩) 1 1) rfl rfl HR.out ?_) | fail)
    exact HE.out

set_option maxRecDepth 100000 in
theorem collect_nil (A1 : Nat) (w : World) (hA : Blk w A1 41 #[.map none]) :
    Calls Try.prog 48 #[.func (.func 50) #[] #[.pointer (some ⟨A1, 0, none⟩)]] w fun e w' => ∃ v xs, e = .returned v ∧ OwW w' w.heap.size v xs ∧ xs.Nodup ∧ (∀ k, k ∈ xs ↔ nM k ≠ none) ∧ (∀ k ∈ xs, k < MM) ∧ Below w.heap.size w w' := by
  have HC := Lib.hid (appendSeq_nil A1 w hA)
  clear hA
  go_enter Try.func48, Try.ntmps48
  go_wp2_with (first | (go_at_call 55; refine (HC.out).mono ?_; rintro e w1 ⟨v, xs, rfl, h⟩; have H1 := Lib.hid h; clear h) | fail)
  go_ret
  exact ⟨v, xs, rfl, H1.out⟩
set_option maxRecDepth 100000 in
theorem sortedFunc_nil (A1 : Nat) (w : World) (hA : Blk w A1 41 #[.map none]) :
    Calls Try.prog 40 #[.func (.func 50) #[] #[.pointer (some ⟨A1, 0, none⟩)], .func (.func 31) #[] #[]] w fun e w' => ∃ v l, e = .returned v ∧ OwW w' w.heap.size v l ∧ Rise nM l ∧ Below w.heap.size w w' := by
  have HC := Lib.hid (collect_nil A1 w hA)
  have HM := Lib.hid nM_many
  clear hA
  go_enter Try.func40, Try.ntmps40
  go_upto_region 2 with (first | (go_at_call 48; refine (HC.out).mono ?_; rintro e w1 ⟨v, xs, rfl, ho, h2, h3, h4, h5⟩; have H1 := Lib.hid (And.intro ho (And.intro h2 (And.intro h3 (And.intro h4 h5)))); clear ho h2 h3 h4 h5) | fail)
  obtain ⟨ho, h2, h3, h4, h5⟩ := H1.out
  obtain ⟨d, rfl⟩ := as_Wd xs h4
  have hlen := HM.out _ h2 fun x hx => ⟨h4 x hx, (h3 x).1 hx⟩
  rw [List.length_map] at hlen
  have hq : Calls Try.prog 49 #[v, .func (.func 31) #[] #[]] w1 fun e w' => e = .returned (.tuple #[]) ∧ OwW w' w.heap.size v ((risen d).map (·.1)) ∧ Below w.heap.size w w' := by
    have hl : (d.map (·.1)).length = d.length := List.length_map ..
    have hl2 : ((risen d).map (·.1)).length = d.length := by rw [List.length_map]; exact List.length_mergeSort _
    unfold OwW at ho
    rw [hl] at ho
    rcases ho.2 with ⟨rfl, hn⟩ | ⟨g, cap, cur, rfl, hb, _⟩
    · refine (AnyF.slices_SortFunc_none laysSort none 0 (.func (.func 31) #[] #[]) w1).mono ?_
      rintro e w' ⟨rfl, rfl⟩
      obtain rfl : d = [] := List.eq_nil_of_length_eq_zero hn
      have e0 : risen [] = [] := List.eq_nil_of_length_eq_zero (List.length_mergeSort _)
      refine ⟨rfl, ?_, h5⟩
      rw [e0]
      exact World.ownsRow_nil _ _ _ _
    · refine (sort_any g cap d w1 w.heap.size (by omega) ho).mono ?_
      rintro e w' ⟨rfl, q1, q2⟩
      refine ⟨rfl, by unfold OwW; rw [hl2]; exact q1, h5.grown q2 h5.size (fun r e => by cases e; exact hb)⟩
  have HQ := Lib.hid hq
  have hrise : Rise nM ((risen d).map (·.1)) := by
    have hp := (risen_perm d).map (·.1)
    refine ⟨?_, fun k => (hp.mem_iff).trans (h3 k), fun k hk => h4 k ((hp.mem_iff).1 hk)⟩
    have h6 : ((risen d).map (·.1)).Nodup := hp.nodup_iff.2 h2
    have h7 : ((risen d).map (·.1)).Pairwise (· ≤ ·) := List.pairwise_map.2 (risen_pair d)
    exact (h7.and h6).imp fun {a b} h => by omega
  have HR := Lib.hid hrise
  clear ho h2 h3 h4 h5 hlen hq hrise H1
  go_wp2_with (first | (go_at_call 49; refine (HQ.out).mono ?_; rintro e w2 ⟨rfl, h⟩; have H2 := Lib.hid h; clear h) | fail)
  go_ret
  exact ⟨v, _, rfl, H2.out.1, HR.out, H2.out.2⟩
set_option maxRecDepth 100000 in
theorem sorted_nil (w : World) :
    Calls Try.prog 30 #[.map none, .func (.func 31) #[] #[]] w fun e w' => ∃ v l, e = .returned v ∧ OwW w' w.heap.size v l ∧ Rise nM l ∧ Below w.heap.size w w' := by
  have hmf : ∀ (fn : Fn) (first cap : Array Value) (w : World), (Instr.makeFunc fn first cap).run Try.prog w = .ok (.func fn first cap) w := fun _ _ _ _ => rfl
  have hal := balloc (Below.refl w.heap.size w) (.cells #[.map none] 41)
  have HK : Hid (Calls Try.prog 41 #[.map none] w fun e w' => e = .returned (.func (.func 50) #[] #[.pointer (some ⟨w.heap.size, 0, none⟩)]) ∧ w' = w.alloc (.cells #[.map none] 41)) := Lib.hid (by
    clear hal
    go_enter Try.func41, Try.ntmps41
    go_wp2_with fail
    go_ret
    exact ⟨rfl, rfl⟩)
  have HS := Lib.hid (sortedFunc_nil w.heap.size (w.alloc (.cells #[.map none] 41)) (Blk.new _ _ _))
  have HB := Lib.hid hal
  clear hal
  go_enter Try.func30, Try.ntmps30
  go_wp2_with (first
    | (go_at_call 41; refine (HK.out).mono ?_; rintro e w1 ⟨rfl, rfl⟩)
    | (go_at_call 40; refine (HS.out).mono ?_; rintro e w2 ⟨v, l, rfl, h⟩; have H2 := Lib.hid h; clear h)
    | fail)
  go_ret
  exact ⟨v, l, rfl, World.ownsRow.mono H2.out.1 (by simp), H2.out.2.1, bstep HB.out H2.out.2.2⟩

/-- What All's iterator reads of no storage. -/
def AlN (X : World) (gk gm : Nat) : Prop := (∃ x c, Blk X gk 68 #[.slice x 0 c]) ∧ Blk X gm 42 #[.map none]
theorem AlN.keep {X Y : World} {gk gm : Nat} (h : AlN X gk gm) (k : Below X.heap.size X Y) : AlN Y gk gm := by
  obtain ⟨⟨x, c, h1⟩, h2⟩ := h
  exact ⟨⟨x, c, h1.keep k⟩, h2.keep k⟩
set_option maxRecDepth 100000 in
theorem sall_none (p : Value) (w : World) (h : NoS w p) :
    Calls Try.prog 14 #[p] w fun e w' => ∃ gk gm, e = .returned (.func (.func 32) #[] #[.pointer (some ⟨gk, 0, none⟩), .pointer (some ⟨gm, 0, none⟩)]) ∧ AlN w' gk gm ∧ w.heap.size ≤ gk ∧ w.heap.size ≤ gm ∧ Below w.heap.size w w' := by
  have hmf : ∀ (fn : Fn) (first cap : Array Value) (w : World), (Instr.makeFunc fn first cap).run Try.prog w = .ok (.func fn first cap) w := fun _ _ _ _ => rfl
  obtain ⟨W1, hW⟩ : ∃ W1, w.alloc (.cells #[.map none] 42) = W1 := ⟨_, rfl⟩
  have hal : Below w.heap.size w W1 := by rw [← hW]; exact balloc (Below.refl w.heap.size w) _
  have hN : Blk W1 w.heap.size 42 #[.map none] := by rw [← hW]; exact Blk.new _ _ _
  have hNone := Lib.hid (none_of (h.keep hal))
  have HS := Lib.hid (sorted_nil W1)
  have c0 := cell_of_row _ _ 0 _ _ _ hN
  have H := Lib.hid (And.intro hN hal)
  have HW := Lib.hid hW
  clear h hal hN hW
  go_enter Try.func14, Try.ntmps14
  go_upto_region 2 with fail
  rw [HW.out]
  go_wp2_with (first
    | (go_at_call 26; refine (hNone.out).mono ?_; rintro e w1 ⟨rfl, rfl⟩)
    | (go_at_call 30; refine (HS.out).mono ?_; rintro e Y ⟨v, l, rfl, h⟩; have H2 := Lib.hid h; clear h; obtain ⟨xl, cl, rfl⟩ := H2.out.1.is)
    | fail)
  go_ret
  have hl : l = [] := by
    cases l with
    | nil => rfl
    | cons a l => exact absurd rfl ((H2.out.2.1.2.1 a).1 (List.mem_cons_self ..))
  subst hl
  have hY := H2.out.2.2
  have hYa := balloc (Below.refl Y.heap.size Y) (.cells #[.slice xl 0 cl] 68)
  have hl2 := hY.size
  have hl3 := H.out.2.size
  exact ⟨_, _, rfl, ⟨⟨xl, cl, Blk.new _ _ _⟩, (H.out.1.keep hY).keep hYa⟩, by omega, Nat.le_refl _, bstep (bstep H.out.2 hY) hYa⟩
set_option maxRecDepth 100000 in
theorem all1N_in (n : Nat) (L gk gm : Nat) (J : World → Prop) (w : World) (hA : AlN w gk gm) (h0 : J w) :
    CallsIn Fence.wide n Try.prog 32 #[.func (.yield L) #[] #[], .pointer (some ⟨gk, 0, none⟩), .pointer (some ⟨gm, 0, none⟩)] w fun e Y => (∃ v, e = .returned v) ∧ J Y := by
  obtain ⟨⟨x, c, h1⟩, h2⟩ := hA
  have cK := cell_of_row _ _ 0 _ _ _ h1
  have H0 := Lib.hid h0
  clear h1 h2 h0
  refine callsIn_of_wp_marks Try.func32 rfl trivial ?_ rfl
  simp only [Try.ntmps32, List.size_toArray, List.length_cons, List.length_nil, Nat.reduceAdd, Nat.reduceSub, Array.replicate_succ, Array.replicate_zero, List.push_toArray, List.append_toArray, List.nil_append, List.cons_append]
  gi_wp2_with fail
  gi_loopw [8] (fun i wr => i = .int .i64 0 ∧ wr = w) (fun _ _ => 0)
  case atStart => exact ⟨rfl, rfl⟩
  case round =>
    obtain ⟨rfl, rfl⟩ := hrel
    gi_wp2_with fail
    exact ⟨_, results_none rfl _ _ _, ⟨_, rfl⟩, H0.out⟩

end Go.Proofs.Ytcfnhilcpfiocaa
