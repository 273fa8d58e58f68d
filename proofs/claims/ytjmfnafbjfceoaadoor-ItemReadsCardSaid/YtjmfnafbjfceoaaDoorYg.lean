/- item: laid of an argument's item, any that may be. -/
import Derived.Test.YtjmfnafbjfceoaaDoorQh
import Derived.Stop.RegionWithIn
import Derived.Sort.LoopGhostIn
namespace Go.Proofs.YtjmfnafbjfceoaaDoor
open Go.RowKit Go.Shelf
attribute [local irreducible] lb wdG byA byC heL
set_option maxRecDepth 100000 in
set_option maxHeartbeats 2000000 in
theorem kindOf_not1w (x : Option Addr) (n c : Nat) (y : Option Addr) (m d : Nat) (hn : n ≠ 1) (w : World) :
    Calls Tryd.prog 51 #[itW false x n c y m d] w fun e w' => e = .returned (.int .i64 1) ∧ Below w.heap.size w w' := by
  have hW := balloc (Below.refl w.heap.size w) (.cells #[.bool false, .slice x n c, .slice y m d] 25)
  have g : ((n : Int) == 1) = false := by simp; omega
  go_enter Tryd.func51, Tryd.ntmps51
  go_wp2_with fail
  go_quiet (fail)
  go_wp2_with fail
  go_ret
  exact ⟨rfl, below_drewN hW _⟩
set_option maxRecDepth 100000 in
set_option maxHeartbeats 2000000 in
theorem kindOf_1w (b o c v : Nat) (y : Option Addr) (m d : Nat) (w : World) (hb : b < w.heap.size) (hv : w.cell? ⟨b, o, none⟩ = some (.int .u8 v)) (hH : HD w) :
    Calls Tryd.prog 51 #[itW false (some ⟨b, o, none⟩) 1 c y m d] w fun e w' => e = .returned (.int .i64 (if v < 128 then 0 else 1)) ∧ Below w.heap.size w w' := by
  have hW := balloc (Below.refl w.heap.size w) (.cells #[.bool false, .slice (some ⟨b, o, none⟩) 1 c, .slice y m d] 25)
  have c1 := hH.keep hW 1 (by omega)
  rw [show hdN 1 = 128 from rfl] at c1
  have c2 := (hW.cell (p := ⟨b, o, none⟩) hb).trans hv
  clear hH hv
  go_enter Tryd.func51, Tryd.ntmps51
  by_cases h : v < 128
  · have g : (v : Int) < 128 := by omega
    rw [if_pos h]
    clear h
    go_wp2_with fail
    go_quiet (fail)
    go_wp2_with fail
    go_ret
    exact ⟨rfl, below_drewN hW _⟩
  · have g : ¬ (v : Int) < 128 := by omega
    rw [if_neg h]
    clear h
    go_wp2_with fail
    go_quiet (fail)
    go_wp2_with fail
    go_ret
    exact ⟨rfl, below_drewN hW _⟩
theorem kindOf_byteso (x : Option Addr) (c : Nat) (l : List Nat) (y : Option Addr) (m d : Nat) (B : Nat) (w : World) (hv : Bto B w (.slice x l.length c) l) (hH : HD w) :
    Calls Tryd.prog 51 #[itW false x l.length c y m d] w fun e w' => e = .returned (.int .i64 (koL l : Nat)) ∧ Below w.heap.size w w' := by
  by_cases hn : l.length = 1
  · obtain ⟨a, rfl⟩ := List.length_eq_one_iff.1 hn
    obtain ⟨hs, x', c', he, _, _, h3⟩ := hv
    cases he
    obtain ⟨b, o, rfl, _, hb, hc⟩ := h3 (by simp)
    refine (kindOf_1w b o c a y m d w hb (by have := hc 0 a rfl; simpa using this) hH).mono ?_
    rintro e w' ⟨rfl, h⟩
    refine ⟨?_, h⟩
    unfold koL
    by_cases ha : a < 128
    · rw [if_pos ha, if_pos ⟨rfl, ha⟩]; rfl
    · rw [if_neg ha, if_neg (fun h => ha h.2)]; rfl
  · refine (kindOf_not1w x l.length c y m d hn w).mono ?_
    rintro e w' ⟨rfl, h⟩
    refine ⟨?_, h⟩
    unfold koL
    rw [if_neg (fun h => hn h.1)]; rfl

set_option maxRecDepth 100000 in
set_option maxHeartbeats 2000000 in
theorem laid_byteso (x : Option Addr) (cap : Nat) (l : List Nat) (y0 : Option Addr) (m0 d0 : Nat) (B : Nat) (w : World) (hv : Bto B w (.slice x l.length cap) l) (hz : ∀ n c, Value.slice x l.length cap = .slice none n c → c = 0) (hl : (laB l).length ≤ 4096) (hH : HD w) :
    Calls Tryd.prog 28 #[itW false x l.length cap y0 m0 d0] w fun e w' => ∃ y m d, e = .returned (.slice y m d) ∧ Ow w' w.heap.size (.slice y m d) (laB l) ∧ Below w.heap.size w w' := by
  have hl4 := Lib.hid hl
  replace hl : l.length ≤ 4096 := by unfold laB at hl; rw [List.length_append] at hl; omega
  have hW := balloc (Below.refl w.heap.size w) (.cells #[.bool false, .slice x l.length cap, .slice y0 m0 d0] 25)
  have g : ¬ (4096 : Int) < l.length := by omega
  have g' : (l.length : Int) ≤ 4096 := by omega
  have hko := koL_le l
  obtain ⟨hdl, hhd⟩ : ∃ hdl, (if koL l = 0 then [] else heL (hdN (koL l)) l.length) = hdl := ⟨_, rfl⟩
  have hlen : laB l = hdl ++ l := by
    rw [← hhd]; unfold laB
    rcases hko with h | h <;> rw [h] <;> rfl
  have hhl : hdl.length ≤ 3 := by
    rw [← hhd]
    split
    · simp
    · exact heL_len _ _ (by omega)
  have hB1 := hv.new hW
  have hk1 := Lib.hid (kindOf_byteso x cap l y0 m0 d0 B _ hB1 (hH.keep hW))
  have HL := Lib.hid hlen
  have hho := fun w1 h => head_of (koL l) l.length (by omega) hl w1 h
  rw [hhd] at hho
  have HHO := Lib.hid hho
  clear hlen hhd hho
  go_enter Tryd.func28, Tryd.ntmps28
  go_wp2_with fail
  refine hk1.out.mono ?_
  rintro e w1 ⟨rfl, k1⟩
  rename_i K hK
  refine hK _ _ ?_
  clear hK K hk1
  have hW1 := bstep hW k1
  have hB2 := hB1.new k1
  have hho := Lib.hid (HHO.out w1 (hH.keep hW1))
  clear HHO
  have HX := Lib.hid (And.intro hW1 hB2)
  clear hW k1 hB1 hW1 hB2 hv
  obtain ⟨k, hk⟩ : ∃ k, koL l = k := ⟨_, rfl⟩
  rw [hk] at hho hko ⊢
  have HK := Lib.hid hk
  clear hk
  refine wpList_plain rfl fun K hK => ?_
  go_simp
  refine hK _ _ ?_
  clear hK K
  refine wpList_plain rfl fun K hK => ?_
  go_simp
  refine hK _ _ ?_
  clear hK K
  refine wpList_plain rfl fun K hK => ?_
  go_simp
  refine hho.out.mono ?_
  rintro e w2 ⟨x2, m2, c2, rfl, hO, k2⟩
  refine hK _ _ ?_
  clear hK K hho
  obtain ⟨hW1, hB2⟩ := HX.out
  have hW2 := bstep hW1 k2
  have hB3 := hB2.new k2
  have hs1 := hW1.size
  have hs2 := k2.size
  have HO := Lib.hid (And.intro hO (And.intro hB3 hW2))
  clear HX hO hB3 hW2 hW1 hB2 k2
  go_wp2_with (first
      | (at_builtin; refine wpList_appq rfl _ _ rfl w1.heap.size _ HO.out.1 B l _ rfl HO.out.2.1 hz ?c1 ?c2 ?_)
      | fail)
  case c1 => omega
  case c2 => exact hs2
  intro y c w3 hO3 hg3
  have hO4 := hO3.mono hs1
  have hW3 : Below w.heap.size w w3 := HO.out.2.2.grown hg3 (Nat.le_trans hs1 hs2) (fun k e => by have := (HO.out.1.2.lt k e).1; omega)
  have HF := Lib.hid (And.intro hO4 hW3)
  clear hO3 hg3 HO hO4 hW3
  rw [← HL.out] at HF
  have hn : (laB l).length = hdl.length + l.length := by rw [HL.out]; simp
  obtain ⟨n, hn2⟩ : ∃ n, hdl.length + l.length = n := ⟨_, rfl⟩
  try rw [hn] at HF
  rw [hn2] at hn HF ⊢
  have HN := Lib.hid hn
  clear hn hn2 HL HK
  have g2 : (n : Int) ≤ 4096 := by have := HN.out; have := hl4.out; omega
  go_wp2_with fail
  go_ret
  exact ⟨_, _, _, rfl, HF.out⟩

set_option maxRecDepth 100000 in
set_option maxHeartbeats 4000000 in
theorem values1_ino (n : Nat) (hn : 1 ≤ n) (l V n₀ B : Nat) (iv : Value) (vs : List Value) (J Jx : List Nat → World → Prop) (w : World) (hn₀ : n₀ ≤ w.heap.size) (hB : B ≤ n₀) (hvl : vs.length ≤ 1000000)
    (hV : Blk w V 23 #[iv]) (hI : Itso B w iv vs) (hJ : ∀ s X (o : Obj), J s X → J s (X.alloc o))
    (hY : ∀ pre (x : Nat) X, (pre = List.range x ∧ x < vs.length) → J pre X → YieldAt Fence.wide 0 Tryd.prog l #[vs.getD x undef] X fun e Y => (e = .returned (.bool true) ∧ J (pre ++ [x]) Y ∧ X.heap.size ≤ Y.heap.size ∧ Below n₀ X Y) ∨ (e = .returned (.bool false) ∧ Jx (pre ++ [x]) Y))
    (h0 : J [] w) :
    CallsIn Fence.wide n Tryd.prog 83 #[.func (.yield l) #[] #[], .pointer (some ⟨V, 0, none⟩)] w fun e Y => (∃ v, e = .returned v) ∧
      ((∃ xs, xs = List.range vs.length ∧ J xs Y) ∨ (∃ pre, (∃ k, pre = List.range (k + 1)) ∧ Jx pre Y)) := by
  refine callsIn_of_wp Tryd.func83 rfl trivial ?_ rfl
  simp only [Tryd.ntmps83, List.size_toArray, List.length_cons, List.length_nil, Nat.reduceAdd, Nat.reduceSub, Array.replicate_succ, Array.replicate_zero, List.push_toArray, List.append_toArray, List.nil_append, List.cons_append]
  obtain ⟨x, cap, rfl, hc1, hI⟩ := hI
  have cV : w.cell? ⟨V, 0, none⟩ = some (.slice x vs.length cap) := cell_of_row w _ 0 _ _ _ hV
  have HI := Lib.hid hI
  have HY := Lib.hid hY
  obtain ⟨N, hN⟩ : ∃ N, vs.length = N := ⟨_, rfl⟩
  rw [hN] at cV hc1 hvl
  have HN := Lib.hid hN
  clear hI hY hN hV
  gi_wp2_with fail
  gi_loopw [7] (fun i wr => ∃ k : Nat, i = .int .i64 (k : Int) ∧ k ≤ N ∧ J (List.range k) wr ∧ w.heap.size ≤ wr.heap.size ∧ Below n₀ w wr) (fun i _ => N - (intOf i).toNat)
  case atStart => exact ⟨0, rfl, by omega, h0, Nat.le_refl _, Below.refl _ _⟩
  case round =>
    clear h0
    obtain ⟨k, rfl, hk, hj, hkp, hbl⟩ := hrel
    by_cases hlt : k < N
    · have hkI : (k : Int) < (N : Int) := by omega
      have hk0 : ¬ (k : Int) < 0 := by omega
      obtain ⟨v, hv⟩ : ∃ v, vs[k]? = some v := ⟨vs[k]'(by rw [HN.out]; exact hlt), by simp [HN.out, hlt]⟩
      obtain ⟨b, o, rfl, hb, hbx, hc⟩ := HI.out (fun e => by rw [e] at hv; simp at hv)
      obtain ⟨c1, x1, n1, d1, y1, m1, e1, hve, k0, k1, k2⟩ := hc k v hv
      have hb0 : b < n₀ := by omega
      have k0 := (hbl.cell (p := ⟨b, o + k * 3, none⟩) hb0).trans k0
      have k1 := (hbl.cell (p := ⟨b, o + k * 3 + 1, none⟩) hb0).trans k1
      have k2 := (hbl.cell (p := ⟨b, o + k * 3 + 2, none⟩) hb0).trans k2
      have g1 : IntKind.i64.wrap ((k : Int) + 1) = (k : Int) + 1 := IntWalk.i64_in _ (by omega)
      have hj2 := hJ _ _ (.cells #[.bool c1, .slice x1 n1 d1, .slice y1 m1 e1] 25) hj
      have hyy := HY.out (List.range k) k _ ⟨rfl, by rw [HN.out]; exact hlt⟩ hj2
      rw [List.getD_eq_getElem?_getD, hv, Option.getD_some, hve] at hyy
      obtain ⟨fn, tmps, assign, body, hy, hR⟩ := YieldAt.wide (m' := n - 1) hyy
      have HK := Lib.hid (And.intro hkp hbl)
      clear hj hj2 hyy hc hv hve hkp hbl hbx hb hb0
      gi_wp2_with fail
      refine hR.mono ?_
      clear hR hy k0 k1 k2
      rintro e Y (⟨rfl, hj, hkp, hbl⟩ | ⟨rfl, hjx⟩)
      · have hkp2 : w.heap.size ≤ Y.heap.size := Nat.le_trans HK.out.1 (Nat.le_trans (by simp) hkp)
        have hbl2 := HK.out.2.trans (((Below.refl n₀ wr).alloc (Nat.le_trans hn₀ HK.out.1) (.cells #[.bool c1, .slice x1 n1 d1, .slice y1 m1 e1] 25)).trans hbl)
        have HF := Lib.hid (And.intro hj (And.intro hkp2 hbl2))
        clear hj hkp hbl hkp2 hbl2 HK
        gi_wp2_with fail
        exact ⟨⟨k + 1, by go_num, by omega, by rw [List.range_succ]; exact HF.out.1, HF.out.2⟩, by simp [intOf]; omega⟩
      · have HF := Lib.hid hjx
        clear hjx HK
        gi_wp2_with fail
        exact bodyPost_ret (v := .tuple #[]) (results_none rfl _ _ _) rfl ⟨⟨_, rfl⟩, .inr ⟨_, ⟨k, rfl⟩, by rw [List.range_succ]; exact HF.out⟩⟩
    · obtain rfl : k = N := by omega
      have HK := Lib.hid (And.intro hj hkp)
      clear hj hkp hbl
      gi_wp2_with fail
      go_end0
      exact ⟨⟨_, rfl⟩, .inl ⟨_, by rw [HN.out], HK.out.1⟩⟩
/-- The iterator over a slice of items. -/
theorem values_seqo (n n₀ V B : Nat) (iv : Value) (vs : List Value) (hn : 1 ≤ n) (w : World) (hn₀ : n₀ ≤ w.heap.size) (hB : B ≤ n₀) (hvl : vs.length ≤ 1000000) (hV : Blk w V 23 #[iv]) (hI : Itso B w iv vs) :
    SeqM n Tryd.prog 83 #[.pointer (some ⟨V, 0, none⟩)] (fun x : Nat => #[vs.getD x undef]) n₀ (fun _ => False) (fun pre x => pre = List.range x ∧ x < vs.length) (fun xs => xs = List.range vs.length) (fun pre => ∃ k, pre = List.range (k + 1)) w := fun l J Jx W hW hJ _ hY h0 =>
  values1_ino n hn l V n₀ B iv vs J Jx W (Nat.le_trans hn₀ hW.size) hB hvl (hV.keep hW) (hI.new hW) (fun _ _ o h => hJ.alloc o h) (fun pre x X hg hj => by
    obtain ⟨fn, tmps, assign, body, hy, hR⟩ := hY pre x X hg hj
    exact ⟨fn, tmps, assign, body, hy, hR.mono fun e Y h => h.elim (fun h => .inl ⟨h.1, h.2.1, h.2.2.1.1, h.2.2.2⟩) (fun h => .inr ⟨h.1, h.2.1⟩)⟩) h0
section
attribute [local go_sem] Oper.semAt_some
set_option maxRecDepth 100000 in
set_option maxHeartbeats 4000000 in
theorem made_joinedo (V T B : Nat) (iv : Value) (vs : List Value) (yss : List (List Nat)) (w : World) (hBT : B ≤ T) (_hTV : T < V) (hvl : vs.length ≤ 100000) (hlen : yss.length = vs.length) (htot : toL yss ≤ 4096)
    (hV : Blk w V 23 #[iv]) (hT : Blk w T 3 #[.int .i64 0]) (hI : Itso B w iv vs)
    (hL : ∀ (i : Nat) v ys, vs[i]? = some v → yss[i]? = some ys → ∀ X, Below T w X → T ≤ X.heap.size → Calls Tryd.prog 28 #[v] X fun e w' => ∃ y m d, e = .returned (.slice y m d) ∧ Ow w' X.heap.size (.slice y m d) ys ∧ Below X.heap.size X w') :
    Calls Tryd.prog 68 #[.func (.func 83) #[] #[.pointer (some ⟨V, 0, none⟩)], .func (.func 70) #[] #[.pointer (some ⟨T, 0, none⟩)]] w fun e w' =>
      ∃ x c sl, e = .returned (.slice x vs.length c) ∧ w'.ownsRow w.heap.size 22 1 (.slice x vs.length c) vs.length sl ∧ RwA w' w.heap.size sl yss ∧ Below T w w' := by
  refine (callsIn_wide (n := 20)).1 ?_
  refine callsIn_of_wp_marks Tryd.func68 rfl trivial ?_ rfl
  simp only [Tryd.ntmps68, List.size_toArray, List.length_cons, List.length_nil, Nat.reduceAdd, Nat.reduceSub, Array.replicate_succ, Array.replicate_zero, List.push_toArray, List.append_toArray, List.nil_append, List.cons_append]
  refine (wpIn_wide (n := 20)).2 ?_
  go_wp2_with fail
  refine (wpIn_wide (n := 20)).1 ?_
  have hTl := hT.lt
  have hVl := hV.lt
  have hT1 := (hT.alloc (.cells #[.func (.func 70) #[] #[.pointer (some ⟨T, 0, none⟩)]] 60)).alloc (.cells #[.slice none 0 0] 113)
  have hV1 := (hV.alloc (.cells #[.func (.func 70) #[] #[.pointer (some ⟨T, 0, none⟩)]] 60)).alloc (.cells #[.slice none 0 0] 113)
  have hO1 := (Blk.new w 60 #[.func (.func 70) #[] #[.pointer (some ⟨T, 0, none⟩)]]).alloc (.cells #[.slice none 0 0] 113)
  have hL1 := Blk.newS w (.cells #[.func (.func 70) #[] #[.pointer (some ⟨T, 0, none⟩)]] 60) 113 #[.slice none 0 0]
  have hW1 := balloc (balloc (Below.refl w.heap.size w) (.cells #[.func (.func 70) #[] #[.pointer (some ⟨T, 0, none⟩)]] 60)) (.cells #[.slice none 0 0] 113)
  have hI1 := hI.new hW1
  have hsz : ((w.alloc (.cells #[.func (.func 70) #[] #[.pointer (some ⟨T, 0, none⟩)]] 60)).alloc (.cells #[.slice none 0 0] 113)).heap.size = w.heap.size + 2 := by simp
  obtain ⟨W0, hW0⟩ : ∃ W0, ((w.alloc (.cells #[.func (.func 70) #[] #[.pointer (some ⟨T, 0, none⟩)]] 60)).alloc (.cells #[.slice none 0 0] 113)) = W0 := ⟨_, rfl⟩
  rw [hW0] at hT1 hV1 hO1 hL1 hW1 hI1 hsz ⊢
  clear hW0
  obtain ⟨O, hO⟩ : ∃ O, w.heap.size = O := ⟨_, rfl⟩
  have hWT : Below T w W0 := hW1.mono (by omega)
  have hM0 : MI T O yss w [] W0 := ⟨rfl, by simpa [toL] using hT1, by rw [← hO]; exact hO1, ⟨none, 0, [], by rw [← hO]; exact hL1, World.ownsRow_nil _ _ _ _, rfl, fun i v ys h _ => by simp at h⟩, hWT, by omega, by omega⟩
  have hTO : T < O := by omega
  rw [hO] at hsz ⊢
  have HO := Lib.hid hO
  have HL := Lib.hid hL
  have HLen := Lib.hid hlen
  have HSZ := Lib.hid hsz
  have hshape : ∀ (x : Nat), x < vs.length → ∃ c1 x1 n1 d1 y1 m1 e1, vs[x]? = some (.agg #[.bool c1, .slice x1 n1 d1, .slice y1 m1 e1]) := fun x hx => by
    obtain ⟨ad, cap, _, _, h⟩ := hI
    obtain ⟨b, o, _, _, _, hc⟩ := h (fun e => by rw [e] at hx; simp at hx)
    obtain ⟨c1, x1, n1, d1, y1, m1, e1, e, _⟩ := hc x (vs[x]) (by simp [hx])
    exact ⟨c1, x1, n1, d1, y1, m1, e1, by rw [← e]; simp [hx]⟩
  have HSH := Lib.hid hshape
  have hstay : StayM (fun k => False ∨ k = W0.heap.size ∨ k = W0.heap.size + 1) (MI T O yss w) := by rw [hsz]; exact MI.stay
  clear hL hlen hshape hT1 hO1 hL1 hT hV hI hO
  refine wpIn_rangeM (n := 20) (by omega) (gf := 83) (lb := #[.pointer (some ⟨V, 0, none⟩)]) rfl (enters_of Tryd.func83 (by kernel_rfl) rfl)
    (values_seqo (20 - 1) T V B iv vs (by omega) W0 (by have := hW1.size; omega) hBT (by omega) hV1 hI1) (Below.refl _ _) (by have := hW1.size; omega) (fun _ h => h.elim) (fun _ => rfl)
    (MI T O yss w) (fun _ _ _ => False) hstay (fun _ _ _ _ _ h _ _ => h) hM0
    (fun x a' X => ∃ g c1 x1 n1 d1 y1 m1 e1, (vs[x]? = some (.agg #[.bool c1, .slice x1 n1 d1, .slice y1 m1 e1]) ∧ O + 3 < g ∧ a' = { tmps := #[.func (.func 83) #[] #[.pointer (some ⟨V, 0, none⟩)], .func (.func 70) #[] #[.pointer (some ⟨T, 0, none⟩)], undef, .pointer (some ⟨O, 0, none⟩), .slice none 0 0, .pointer (some ⟨O + 1, 0, none⟩), .pointer (some ⟨g, 0, none⟩), .func (.func 83) #[] #[.pointer (some ⟨V, 0, none⟩)], .agg #[.bool c1, .slice x1 n1 d1, .slice y1 m1 e1], undef, undef, undef, undef, undef, undef, undef], defers := [] }) ∧ Blk X g 25 #[.bool c1, .slice x1 n1 d1, .slice y1 m1 e1])
    (fun x a' _ X Y row h hg hr => by obtain ⟨g, c1, x1, n1, d1, y1, m1, e1, h1, h2⟩ := h; exact ⟨g, c1, x1, n1, d1, y1, m1, e1, h1, h2.kept hg (fun e => by have := hr _ e.symm; have := h1.2.1; have := HSZ.out; omega)⟩)
    ?assign ?body ?done ?stop
  case assign =>
    rintro l2 pre x X K ⟨hpre, hx⟩ hll hi hK
    obtain ⟨c1, x1, n1, d1, y1, m1, e1, hv⟩ := HSH.out x hx
    have hgd : vs.getD x undef = .agg #[.bool c1, .slice x1 n1 d1, .slice y1 m1 e1] := by rw [List.getD_eq_getElem?_getD, hv]; rfl
    rw [hgd]
    have HK := Lib.hid (And.intro hv (And.intro hll hK))
    clear hv hgd hpre hx hll hK
    gi_wp2_with fail
    exact HK.out.2.2 _ _ (KeptM.alloc _ _ _) ((Below.refl T X).alloc (by have := hi.2.2.2.2.2.1; omega) _) (hstay.alloc _ hi) ⟨X.heap.size, c1, x1, n1, d1, y1, m1, e1, ⟨HK.out.1, by have := HK.out.2.1; have := HSZ.out; omega, rfl⟩, Blk.new _ _ _⟩
  case done =>
    rintro D xs X hD rfl hi hK
    obtain ⟨_, h2, h3, ⟨x, c, sl, h4, h5, h6⟩, h7, h8, h9⟩ := hi
    rw [List.length_range] at h4 h5 h6
    have h6' : RwA X w.heap.size sl yss := by
      rw [← HLen.out, List.take_length] at h6
      exact ⟨h6.1, fun i v ys p q => (h6.2 i v ys p q).mono (by have := HO.out; omega)⟩
    have h5' := h5.mono (show w.heap.size ≤ O + 4 by have := HO.out; omega)
    have hgD : X.grownBy (X.putObj D (.deferred none)) (some D) := grownBy_putObj' X D _
    have hYo := h5'.kept hgD (.inr (own_far h5 (by have := HSZ.out; omega)))
    have hYR : RwA (X.putObj D (.deferred none)) w.heap.size sl yss := ⟨h6'.1, fun i v ys p q => by
      rw [← HLen.out, List.take_length] at h6
      exact (h6'.2 i v ys p q).kept' hgD (.inr (own_far (h6.2 i v ys p q).2 (by have := HSZ.out; omega)))⟩
    have hBD : Below T w (X.putObj D (.deferred none)) := h7.trans (below_put X _ (by have := HSZ.out; omega))
    have cL := cell_of_row X _ 0 _ _ _ h4
    have HE := Lib.hid (And.intro hYo (And.intro hYR hBD))
    clear hYo hYR hBD h2 h3 h4 h5 h6 h7 h5' h6' hgD
    go_wp2_with fail
    refine ⟨by simp, .inl ⟨_, _, rfl, run_takeDeferred hK, ?_⟩⟩
    exact ⟨_, by simp [results, Tryd.results68, go_sem], x, c, sl, rfl, HE.out⟩
  case stop =>
    rintro D c pre X hD _ h hK
    exact h.elim
  case body =>
    rintro l2 pre x a' X hl2 ⟨hpre, hx⟩ hlo hi ⟨g, c1, x1, n1, d1, y1, m1, e1, ⟨hv, hg3, rfl⟩, hG⟩
    have hplen : pre.length = x := by rw [hpre, List.length_range]
    obtain ⟨_, h2, h3, ⟨xl, cl, sl, h4, h5, h6⟩, h7, h8, h9⟩ := hi
    rw [hplen] at h2 h4 h5 h6
    obtain ⟨ys, hys⟩ : ∃ ys, yss[x]? = some ys := ⟨yss[x]'(by rw [HLen.out]; exact hx), by simp [HLen.out, hx]⟩
    have htk := toL_take yss x ys hys
    have htl := toL_le yss (x + 1)
    have hXs : O + 4 ≤ X.heap.size := by obtain ⟨r, hr⟩ := hlo; have := (Array.getElem?_eq_some_iff.1 hr).1; have := HSZ.out; omega
    have HX0 := Lib.hid (And.intro h2 (And.intro h3 (And.intro h4 (And.intro h5 (And.intro h6 (And.intro h7 hG))))))
    have HP0 := Lib.hid (And.intro hpre (And.intro hplen (And.intro hys (And.intro htk hv))))
    clear h2 h3 h4 h5 h6 h7 hG hpre hplen hys htk hv hlo
    gi_wp2_with fail
    obtain ⟨h2, h3, h4, h5, h6, h7, hG⟩ := HX0.out
    obtain ⟨hpre, hplen, hys, htk, hv⟩ := HP0.out
    clear HX0 HP0
    refine wpIn_region_round l2 (by kernel_rfl) (by kernel_rfl) ?_
    have hC := callsIn_wide (n := 20 - 1 - 1 - 1).2 (joined1_any T (toL (yss.take x)) ys c1 x1 n1 d1 y1 m1 e1 X.drew h2.drew' (by omega) (fun Y hY => HL.out x _ ys hv hys Y ((h7.trans (Below.refl T X).drew).trans (hY.mono (by show T ≤ X.heap.size; omega))) (by have := hY.size; have : X.heap.size ≤ Y.heap.size := this; omega)))
    have HC := Lib.hid hC
    have cL : X.drew.cell? ⟨O + 1, 0, none⟩ = some (.slice xl x cl) := cell_of_row _ _ 0 _ _ _ h4.drew'
    have cO : X.drew.cell? ⟨O, 0, none⟩ = some (.func (.func 70) #[] #[.pointer (some ⟨T, 0, none⟩)]) := cell_of_row _ _ 0 _ _ _ h3.drew'
    have cG0 : X.drew.cell? ⟨g, 0, none⟩ = some (.bool c1) := cell_of_row _ _ 0 _ _ _ hG.drew'
    have cG1 : X.drew.cell? ⟨g, 1, none⟩ = some (.slice x1 n1 d1) := cell_of_row _ _ 1 _ _ _ hG.drew'
    have cG2 : X.drew.cell? ⟨g, 2, none⟩ = some (.slice y1 m1 e1) := cell_of_row _ _ 2 _ _ _ hG.drew'
    have HX := Lib.hid (And.intro h2 (And.intro h3 (And.intro h4 (And.intro h5 (And.intro h6 (And.intro h7 (And.intro hXs hG)))))))
    have HP := Lib.hid (And.intro hpre (And.intro hplen (And.intro hys (And.intro htk htl))))
    clear h2 h3 h4 h5 h6 h7 h8 hG hpre hplen hys htk htl hv hC
    refine join_all (T := ?TK) (fun key => ?mk) ?kk
    case mk =>
      refine wpAnyIn_ready (rs := [0, 1, 2]) (by kernel_rfl) (by simp) ?_
      refine AllReadyIn.cons rfl (fun K hK => ?_) (AllReadyIn.cons rfl (fun K hK => ?_) (AllReadyIn.cons rfl (fun K hK => ?_) (AllReadyIn.nil)))
      · go_simp
        refine hK _ _ ?_
        clear hK K
        refine wpAnyIn_ready (rs := [1, 2]) (by kernel_rfl) (by simp) ?_
        refine AllReadyIn.cons rfl (fun K hK => ?_) (AllReadyIn.cons rfl (fun K hK => ?_) (AllReadyIn.nil))
        · go_simp
          refine hK _ _ ?_
          clear hK K
          refine wpAnyIn_ready (rs := [2]) (by kernel_rfl) (by simp) ?_
          refine AllReadyIn.cons rfl (fun K hK => ?_) (AllReadyIn.nil)
          · go_simp
            refine hK _ _ ?_
            clear hK K
            refine wpAnyIn_ready (rs := [3]) (by kernel_rfl) (by simp) ?_
            refine AllReadyIn.cons rfl (fun K hK => ?_) (AllReadyIn.nil)
            · go_simp
              refine ⟨trivial, HC.out.mono ?_⟩
              rintro e wk ⟨y, m, d, rfl, hOw, hTk, hgr⟩
              have hLl : O + 1 < X.heap.size := by have := HX.out.2.2.2.2.2.2.1; omega
              have cL2 : wk.cell? ⟨O + 1, 0, none⟩ = some (.slice xl x cl) := hgr.cell cL (fun e => by injection e with e; have e2 : O + 1 = T := e; omega)
              have cL3 : (wk.alloc (.cells #[.slice y m d] 22)).cell? ⟨O + 1, 0, none⟩ = some (.slice xl x cl) := (World.grownBy_alloc wk _ none).cell cL2 (by simp)
              have HF := Lib.hid (And.intro hOw (And.intro hTk hgr))
              clear hOw hTk hgr
              refine hK _ _ ?_
              clear hK K
              refine wpAnyIn_ready (rs := [4]) (by kernel_rfl) (by simp) ?_
              refine AllReadyIn.cons rfl (fun K hK => ?_) (AllReadyIn.nil)
              · go_simp
                refine hK _ _ ?_
                clear hK K
                revert HF
                revert wk d m y
                exact key.out
        · go_simp
          refine hK _ _ ?_
          clear hK K
          refine wpAnyIn_ready (rs := [1]) (by kernel_rfl) (by simp) ?_
          refine AllReadyIn.cons rfl (fun K hK => ?_) (AllReadyIn.nil)
          · go_simp
            refine hK _ _ ?_
            clear hK K
            refine wpAnyIn_ready (rs := [3]) (by kernel_rfl) (by simp) ?_
            refine AllReadyIn.cons rfl (fun K hK => ?_) (AllReadyIn.nil)
            · go_simp
              refine ⟨trivial, HC.out.mono ?_⟩
              rintro e wk ⟨y, m, d, rfl, hOw, hTk, hgr⟩
              have hLl : O + 1 < X.heap.size := by have := HX.out.2.2.2.2.2.2.1; omega
              have cL2 : wk.cell? ⟨O + 1, 0, none⟩ = some (.slice xl x cl) := hgr.cell cL (fun e => by injection e with e; have e2 : O + 1 = T := e; omega)
              have cL3 : (wk.alloc (.cells #[.slice y m d] 22)).cell? ⟨O + 1, 0, none⟩ = some (.slice xl x cl) := (World.grownBy_alloc wk _ none).cell cL2 (by simp)
              have HF := Lib.hid (And.intro hOw (And.intro hTk hgr))
              clear hOw hTk hgr
              refine hK _ _ ?_
              clear hK K
              refine wpAnyIn_ready (rs := [4]) (by kernel_rfl) (by simp) ?_
              refine AllReadyIn.cons rfl (fun K hK => ?_) (AllReadyIn.nil)
              · go_simp
                refine hK _ _ ?_
                clear hK K
                revert HF
                revert wk d m y
                exact key.out
      · go_simp
        refine hK _ _ ?_
        clear hK K
        refine wpAnyIn_ready (rs := [0, 2]) (by kernel_rfl) (by simp) ?_
        refine AllReadyIn.cons rfl (fun K hK => ?_) (AllReadyIn.cons rfl (fun K hK => ?_) (AllReadyIn.nil))
        · go_simp
          refine hK _ _ ?_
          clear hK K
          refine wpAnyIn_ready (rs := [2]) (by kernel_rfl) (by simp) ?_
          refine AllReadyIn.cons rfl (fun K hK => ?_) (AllReadyIn.nil)
          · go_simp
            refine hK _ _ ?_
            clear hK K
            refine wpAnyIn_ready (rs := [3]) (by kernel_rfl) (by simp) ?_
            refine AllReadyIn.cons rfl (fun K hK => ?_) (AllReadyIn.nil)
            · go_simp
              refine ⟨trivial, HC.out.mono ?_⟩
              rintro e wk ⟨y, m, d, rfl, hOw, hTk, hgr⟩
              have hLl : O + 1 < X.heap.size := by have := HX.out.2.2.2.2.2.2.1; omega
              have cL2 : wk.cell? ⟨O + 1, 0, none⟩ = some (.slice xl x cl) := hgr.cell cL (fun e => by injection e with e; have e2 : O + 1 = T := e; omega)
              have cL3 : (wk.alloc (.cells #[.slice y m d] 22)).cell? ⟨O + 1, 0, none⟩ = some (.slice xl x cl) := (World.grownBy_alloc wk _ none).cell cL2 (by simp)
              have HF := Lib.hid (And.intro hOw (And.intro hTk hgr))
              clear hOw hTk hgr
              refine hK _ _ ?_
              clear hK K
              refine wpAnyIn_ready (rs := [4]) (by kernel_rfl) (by simp) ?_
              refine AllReadyIn.cons rfl (fun K hK => ?_) (AllReadyIn.nil)
              · go_simp
                refine hK _ _ ?_
                clear hK K
                revert HF
                revert wk d m y
                exact key.out
        · go_simp
          refine hK _ _ ?_
          clear hK K
          refine wpAnyIn_ready (rs := [0, 3]) (by kernel_rfl) (by simp) ?_
          refine AllReadyIn.cons rfl (fun K hK => ?_) (AllReadyIn.cons rfl (fun K hK => ?_) (AllReadyIn.nil))
          · go_simp
            refine hK _ _ ?_
            clear hK K
            refine wpAnyIn_ready (rs := [3]) (by kernel_rfl) (by simp) ?_
            refine AllReadyIn.cons rfl (fun K hK => ?_) (AllReadyIn.nil)
            · go_simp
              refine ⟨trivial, HC.out.mono ?_⟩
              rintro e wk ⟨y, m, d, rfl, hOw, hTk, hgr⟩
              have hLl : O + 1 < X.heap.size := by have := HX.out.2.2.2.2.2.2.1; omega
              have cL2 : wk.cell? ⟨O + 1, 0, none⟩ = some (.slice xl x cl) := hgr.cell cL (fun e => by injection e with e; have e2 : O + 1 = T := e; omega)
              have cL3 : (wk.alloc (.cells #[.slice y m d] 22)).cell? ⟨O + 1, 0, none⟩ = some (.slice xl x cl) := (World.grownBy_alloc wk _ none).cell cL2 (by simp)
              have HF := Lib.hid (And.intro hOw (And.intro hTk hgr))
              clear hOw hTk hgr
              refine hK _ _ ?_
              clear hK K
              refine wpAnyIn_ready (rs := [4]) (by kernel_rfl) (by simp) ?_
              refine AllReadyIn.cons rfl (fun K hK => ?_) (AllReadyIn.nil)
              · go_simp
                refine hK _ _ ?_
                clear hK K
                revert HF
                revert wk d m y
                exact key.out
          · go_simp
            refine ⟨trivial, HC.out.mono ?_⟩
            rintro e wk ⟨y, m, d, rfl, hOw, hTk, hgr⟩
            have hLl : O + 1 < X.heap.size := by have := HX.out.2.2.2.2.2.2.1; omega
            have cL2 : wk.cell? ⟨O + 1, 0, none⟩ = some (.slice xl x cl) := hgr.cell cL (fun e => by injection e with e; have e2 : O + 1 = T := e; omega)
            have cL3 : (wk.alloc (.cells #[.slice y m d] 22)).cell? ⟨O + 1, 0, none⟩ = some (.slice xl x cl) := (World.grownBy_alloc wk _ none).cell cL2 (by simp)
            have HF := Lib.hid (And.intro hOw (And.intro hTk hgr))
            clear hOw hTk hgr
            refine hK _ _ ?_
            clear hK K
            refine wpAnyIn_ready (rs := [0, 4]) (by kernel_rfl) (by simp) ?_
            refine AllReadyIn.cons rfl (fun K hK => ?_) (AllReadyIn.cons rfl (fun K hK => ?_) (AllReadyIn.nil))
            · go_simp
              refine hK _ _ ?_
              clear hK K
              refine wpAnyIn_ready (rs := [4]) (by kernel_rfl) (by simp) ?_
              refine AllReadyIn.cons rfl (fun K hK => ?_) (AllReadyIn.nil)
              · go_simp
                refine hK _ _ ?_
                clear hK K
                revert HF
                revert wk d m y
                exact key.out
            · go_simp
              refine hK _ _ ?_
              clear hK K
              refine wpAnyIn_ready (rs := [0]) (by kernel_rfl) (by simp) ?_
              refine AllReadyIn.cons rfl (fun K hK => ?_) (AllReadyIn.nil)
              · go_simp
                refine hK _ _ ?_
                clear hK K
                revert HF
                revert wk d m y
                exact key.out
      · go_simp
        refine hK _ _ ?_
        clear hK K
        refine wpAnyIn_ready (rs := [0, 1]) (by kernel_rfl) (by simp) ?_
        refine AllReadyIn.cons rfl (fun K hK => ?_) (AllReadyIn.cons rfl (fun K hK => ?_) (AllReadyIn.nil))
        · go_simp
          refine hK _ _ ?_
          clear hK K
          refine wpAnyIn_ready (rs := [1]) (by kernel_rfl) (by simp) ?_
          refine AllReadyIn.cons rfl (fun K hK => ?_) (AllReadyIn.nil)
          · go_simp
            refine hK _ _ ?_
            clear hK K
            refine wpAnyIn_ready (rs := [3]) (by kernel_rfl) (by simp) ?_
            refine AllReadyIn.cons rfl (fun K hK => ?_) (AllReadyIn.nil)
            · go_simp
              refine ⟨trivial, HC.out.mono ?_⟩
              rintro e wk ⟨y, m, d, rfl, hOw, hTk, hgr⟩
              have hLl : O + 1 < X.heap.size := by have := HX.out.2.2.2.2.2.2.1; omega
              have cL2 : wk.cell? ⟨O + 1, 0, none⟩ = some (.slice xl x cl) := hgr.cell cL (fun e => by injection e with e; have e2 : O + 1 = T := e; omega)
              have cL3 : (wk.alloc (.cells #[.slice y m d] 22)).cell? ⟨O + 1, 0, none⟩ = some (.slice xl x cl) := (World.grownBy_alloc wk _ none).cell cL2 (by simp)
              have HF := Lib.hid (And.intro hOw (And.intro hTk hgr))
              clear hOw hTk hgr
              refine hK _ _ ?_
              clear hK K
              refine wpAnyIn_ready (rs := [4]) (by kernel_rfl) (by simp) ?_
              refine AllReadyIn.cons rfl (fun K hK => ?_) (AllReadyIn.nil)
              · go_simp
                refine hK _ _ ?_
                clear hK K
                revert HF
                revert wk d m y
                exact key.out
        · go_simp
          refine hK _ _ ?_
          clear hK K
          refine wpAnyIn_ready (rs := [0, 3]) (by kernel_rfl) (by simp) ?_
          refine AllReadyIn.cons rfl (fun K hK => ?_) (AllReadyIn.cons rfl (fun K hK => ?_) (AllReadyIn.nil))
          · go_simp
            refine hK _ _ ?_
            clear hK K
            refine wpAnyIn_ready (rs := [3]) (by kernel_rfl) (by simp) ?_
            refine AllReadyIn.cons rfl (fun K hK => ?_) (AllReadyIn.nil)
            · go_simp
              refine ⟨trivial, HC.out.mono ?_⟩
              rintro e wk ⟨y, m, d, rfl, hOw, hTk, hgr⟩
              have hLl : O + 1 < X.heap.size := by have := HX.out.2.2.2.2.2.2.1; omega
              have cL2 : wk.cell? ⟨O + 1, 0, none⟩ = some (.slice xl x cl) := hgr.cell cL (fun e => by injection e with e; have e2 : O + 1 = T := e; omega)
              have cL3 : (wk.alloc (.cells #[.slice y m d] 22)).cell? ⟨O + 1, 0, none⟩ = some (.slice xl x cl) := (World.grownBy_alloc wk _ none).cell cL2 (by simp)
              have HF := Lib.hid (And.intro hOw (And.intro hTk hgr))
              clear hOw hTk hgr
              refine hK _ _ ?_
              clear hK K
              refine wpAnyIn_ready (rs := [4]) (by kernel_rfl) (by simp) ?_
              refine AllReadyIn.cons rfl (fun K hK => ?_) (AllReadyIn.nil)
              · go_simp
                refine hK _ _ ?_
                clear hK K
                revert HF
                revert wk d m y
                exact key.out
          · go_simp
            refine ⟨trivial, HC.out.mono ?_⟩
            rintro e wk ⟨y, m, d, rfl, hOw, hTk, hgr⟩
            have hLl : O + 1 < X.heap.size := by have := HX.out.2.2.2.2.2.2.1; omega
            have cL2 : wk.cell? ⟨O + 1, 0, none⟩ = some (.slice xl x cl) := hgr.cell cL (fun e => by injection e with e; have e2 : O + 1 = T := e; omega)
            have cL3 : (wk.alloc (.cells #[.slice y m d] 22)).cell? ⟨O + 1, 0, none⟩ = some (.slice xl x cl) := (World.grownBy_alloc wk _ none).cell cL2 (by simp)
            have HF := Lib.hid (And.intro hOw (And.intro hTk hgr))
            clear hOw hTk hgr
            refine hK _ _ ?_
            clear hK K
            refine wpAnyIn_ready (rs := [0, 4]) (by kernel_rfl) (by simp) ?_
            refine AllReadyIn.cons rfl (fun K hK => ?_) (AllReadyIn.cons rfl (fun K hK => ?_) (AllReadyIn.nil))
            · go_simp
              refine hK _ _ ?_
              clear hK K
              refine wpAnyIn_ready (rs := [4]) (by kernel_rfl) (by simp) ?_
              refine AllReadyIn.cons rfl (fun K hK => ?_) (AllReadyIn.nil)
              · go_simp
                refine hK _ _ ?_
                clear hK K
                revert HF
                revert wk d m y
                exact key.out
            · go_simp
              refine hK _ _ ?_
              clear hK K
              refine wpAnyIn_ready (rs := [0]) (by kernel_rfl) (by simp) ?_
              refine AllReadyIn.cons rfl (fun K hK => ?_) (AllReadyIn.nil)
              · go_simp
                refine hK _ _ ?_
                clear hK K
                revert HF
                revert wk d m y
                exact key.out
    case kk =>
      intro wk y m d cLa cLb HF
      obtain ⟨hOw, hTk, hgr⟩ := HF.out
      obtain ⟨h2, h3, h4, h5, h6, h7, hXs, hG⟩ := HX.out
      obtain ⟨hpre, hplen, hys, htk, htl⟩ := HP.out
      have hTl2 : T < X.heap.size := h2.lt
      have hd0 : X.grownBy X.drew none := grown_drew ⟨rfl, rfl, rfl, Nat.le_refl _, fun _ _ _ => rfl⟩
      have hwk : X.heap.size ≤ wk.heap.size := hgr.size
      have hgA := grown_alloc wk (.cells #[.slice y m d] 22)
      have h5k : wk.ownsRow (O + 4) 22 1 (.slice xl x cl) x sl := (h5.kept (row := none) (hd0) (by cases hv : (Value.slice xl x cl).ownBlock <;> simp)).kept hgr (.inr (own_far h5 (by omega)))
      have h5A := h5k.alloc (.cells #[.slice y m d] 22)
      obtain ⟨i0, hi, hz0, hz1, hz2⟩ := info_parts' infoS8
      have hu : Tryd.prog.underlying 113 = some (.slice 22) := by kernel_rfl
      have hnews : ∀ (j : Nat) u, ([Value.slice y m d] : List Value)[j]? = some u → (wk.alloc (.cells #[.slice y m d] 22)).cell? ((⟨wk.heap.size, 0, none⟩ : Addr).add j) = some u := fun j u hj => by
        cases j with
        | zero => simp at hj; subst hj; exact cell_of_row _ _ 0 _ _ _ (Blk.new wk 22 #[.slice y m d])
        | succ j => simp at hj
      obtain ⟨v', w5, hrun, hown5, hg5, _⟩ := run_append_own (P := Tryd.prog) (w := wk.alloc (.cells #[.slice y m d] 22)) (O + 4) 113 113 22 i0 (.slice none 0 0) 1 24 hu hi hz0 hz1 hz2 rfl (by decide) _ x sl h5A ⟨wk.heap.size, 0, none⟩ 1 1 [.slice y m d] rfl hnews (by intro u hu; simp at hu; subst hu; rfl) (by unfold maxLen; omega) (by omega) (by simp; omega)
      obtain ⟨xn, cn, rfl⟩ := own_slice hown5
      have hfl : (Value.slice xl x cl).ownBlock ≠ some (O + 1) := own_far h5 (by omega)
      have hfT : (Value.slice xl x cl).ownBlock ≠ some T := own_far h5 (by omega)
      have hfO : (Value.slice xl x cl).ownBlock ≠ some O := own_far h5 (by omega)
      have hf5 : (Value.slice xn (x + 1) cn).ownBlock ≠ some (O + 1) := own_far hown5 (by omega)
      have h4k := (h4.drew'.kept hgr (fun e => by injection e with e; omega)).alloc (.cells #[.slice y m d] 22)
      have h45 := h4k.kept hg5 (fun e => hfl e.symm)
      have h35 := ((h3.drew'.kept hgr (fun e => by injection e with e; omega)).alloc (.cells #[.slice y m d] 22)).kept hg5 (fun e => hfO e.symm)
      have h25 := (hTk.alloc (.cells #[.slice y m d] 22)).kept hg5 (fun e => hfT e.symm)
      have hG5 := grown_set' (grown_refl w5 (O + 1)) 0 (.slice xn (x + 1) cn)
      have hap := Ow.apart (hOw.kept' (World.grownBy_alloc wk (.cells #[.slice y m d] 22) none) (by cases hv : (Value.slice y m d).ownBlock <;> simp)) h5A (by decide)
      have hRk : RwA (wk.alloc (.cells #[.slice y m d] 22)) (O + 4) sl (yss.take x) := (((h6.kept (row := none) (hd0) (fun _ e => by cases e)).kept hgr (fun r e => by cases e; omega)).kept hgA (fun _ e => by cases e))
      have hR5 : RwA w5 (O + 4) sl (yss.take x) := ⟨hRk.1, fun i v zs p q => (hRk.2 i v zs p q).kept' hg5 (Ow.apart (hRk.2 i v zs p q) h5A (by decide))⟩
      have hO5 : Ow w5 (O + 4) (.slice y m d) ys := ((hOw.kept' (World.grownBy_alloc wk (.cells #[.slice y m d] 22) none) (by cases hv : (Value.slice y m d).ownBlock <;> simp)).kept' hg5 hap).mono (show O + 4 ≤ X.heap.size from hXs)
      have hYR := (hR5.add hO5).kept hG5 (fun r e => by cases e; omega)
      have hYo := hown5.kept hG5 (.inr hf5)
      have hYL : Blk (w5.setCell ⟨O + 1, 0, none⟩ (.slice xn (x + 1) cn)) (O + 1) 113 #[.slice xn (x + 1) cn] := heap_setCell_same _ (O + 1) 0 _ _ (.slice xn (x + 1) cn) h45
      have hYO := h35.kept hG5 (fun e => by injection e with e; omega)
      have hYT := h25.kept hG5 (fun e => by injection e with e; omega)
      have hown_lt : ∀ k, (Value.slice xl x cl).ownBlock = some k → O + 4 ≤ k := fun k e => (h5.lt k e).1
      have hB5 : Below T X w5 := (((Below.refl T X).drew.grown hgr (Nat.le_of_lt hTl2) (fun k e => by cases e; exact Nat.le_refl _)).grown hgA (by omega) (fun _ e => by cases e)).grown hg5 (by have := hgA.size; omega) (fun k e => by have := hown_lt k e; omega)
      have hBY : Below T X (w5.setCell ⟨O + 1, 0, none⟩ (.slice xn (x + 1) cn)) := hB5.grown hG5 (by have := hB5.size; omega) (fun k e => by cases e; omega)
      have hKd : KeptM (fun k => False ∨ k = W0.heap.size ∨ k = W0.heap.size + 1) X X.drew := KeptM.grown (row := none) (hd0) (fun _ e => by cases e)
      have hKY : KeptM (fun k => False ∨ k = W0.heap.size ∨ k = W0.heap.size + 1) X (w5.setCell ⟨O + 1, 0, none⟩ (.slice xn (x + 1) cn)) :=
        (((hKd.trans (KeptM.grown hgr (fun r e h => by cases e; rcases h with h | h | h; exact h; omega; omega))).trans (KeptM.grown hgA (fun _ e => by cases e))).trans (KeptM.grown hg5 (fun r e h => by have := hown_lt r e; rcases h with h | h | h; exact h; omega; omega))).trans (KeptM.grown hG5 (fun r e h => by cases e; rcases h with h | h | h; exact h; omega; omega))
      have hTT : toL (yss.take x) + ys.length = toL (yss.take (pre ++ [x]).length) := by rw [List.length_append, List.length_singleton, hplen, htk]
      have hys2 : yss.take x ++ [ys] = yss.take (pre ++ [x]).length := by rw [List.length_append, List.length_singleton, hplen, List.take_add_one, hys]; rfl
      have hlen2 : (pre ++ [x]).length = x + 1 := by rw [List.length_append, List.length_singleton, hplen]
      have hMI : MI T O yss w (pre ++ [x]) (w5.setCell ⟨O + 1, 0, none⟩ (.slice xn (x + 1) cn)) :=
        ⟨by rw [hlen2, List.range_succ, hpre], by rw [← hTT]; exact hYT, hYO, ⟨xn, cn, _, by rw [hlen2]; exact hYL, by rw [hlen2]; exact hYo, by rw [← hys2]; exact hYR⟩, h7.trans hBY, by have := hBY.size; omega, h9⟩
      have cL5 := cell_of_row w5 _ 0 _ _ _ h45
      have fL5 := frozen_of_row w5 _ 0 _ _ h45
      have HE := Lib.hid (And.intro hKY (And.intro hBY hMI))
      clear hKY hBY hMI hys2 hTT hlen2 hKd hB5 hown_lt hYT hYO hYL hYo hYR hO5 hR5 hRk hap hG5 h25 h35 h45 h4k hf5 hfO hfT hfl hg5 hown5 hnews hu hz2 hz1 hz0 hi h5A h5k hgA HF hOw hTk hgr h2 h3 h4 h5 h6 h7 hG hpre hplen hys htk htl HX HP HC
      refine wpAnyIn_ready (rs := [5]) (by kernel_rfl) (by simp) ?_
      refine AllReadyIn.cons rfl (fun K hK => ?_) AllReadyIn.nil
      refine wpIn_append_run (.tmp 9) (.tmp 13) 113 rfl (v := .slice xl x cl) (u := .slice (some ⟨wk.heap.size, 0, none⟩) 1 1) rfl rfl hrun ?_
      refine hK _ _ ?_
      clear hK K
      refine wpAnyIn_ready (rs := [6]) (by kernel_rfl) (by simp) ?_
      refine AllReadyIn.cons rfl (fun K hK => ?_) AllReadyIn.nil
      go_simp
      refine hK _ _ ?_
      clear hK K
      refine wpAnyIn_done (by kernel_rfl) ?_ _
      exact HE.out
end
set_option maxRecDepth 100000 in
set_option maxHeartbeats 2000000 in
theorem joined_o (B : Nat) (x : Option Addr) (m c : Nat) (vs : List Value) (yss : List (List Nat)) (w : World) (hB : B ≤ w.heap.size) (hvl : vs.length ≤ 100000) (hlen : yss.length = vs.length) (htot : toL yss ≤ 4096) (hI : Itso B w (.slice x m c) vs)
    (hL : ∀ (i : Nat) v ys, vs[i]? = some v → yss[i]? = some ys → ∀ X, Below w.heap.size w X → Calls Tryd.prog 28 #[v] X fun e w' => ∃ y m d, e = .returned (.slice y m d) ∧ Ow w' X.heap.size (.slice y m d) ys ∧ Below X.heap.size X w') :
    Calls Tryd.prog 49 #[.slice x m c] w fun e w' => ∃ y m d, e = .returned (.slice y m d) ∧ Ow w' w.heap.size (.slice y m d) yss.flatten ∧ Below w.heap.size w w' := by
  have hmf : ∀ (fn : Fn) (first cap : Array Value) (w : World), (Instr.makeFunc fn first cap).run Tryd.prog w = .ok (.func fn first cap) w := fun _ _ _ _ => rfl
  have hT := (Blk.new w 3 #[.int .i64 0]).alloc (.cells #[.slice x m c] 23)
  have hV := Blk.newS w (.cells #[.int .i64 0] 3) 23 #[.slice x m c]
  have hW := balloc (balloc (Below.refl w.heap.size w) (.cells #[.int .i64 0] 3)) (.cells #[.slice x m c] 23)
  have hM := Lib.hid (made_joinedo (w.heap.size + 1) w.heap.size B (.slice x m c) vs yss _ hB (by omega) hvl hlen htot hV hT (hI.new hW) (fun i v ys h1 h2 X hX _ => hL i v ys h1 h2 X (hW.trans hX)))
  have HW := Lib.hid hW
  have HT := Lib.hid htot
  clear hI hL hlen hT hV hW htot
  go_enter Tryd.func49, Tryd.ntmps49
  go_wp2_with fail
  refine (values_any x m c _).mono ?_
  rintro e w1 ⟨rfl, rfl⟩
  rename_i K hK
  refine hK _ _ ?_
  clear hK K
  rw [World.size_alloc]
  refine wpList_plain rfl fun K hK => ?_
  go_simp
  refine hK _ _ ?_
  clear hK K
  refine wpList_plain rfl fun K hK => ?_
  go_simp
  refine hM.out.mono ?_
  rintro e w2 ⟨x2, c2, sl, rfl, ho, hr, h2⟩
  refine hK _ _ ?_
  clear hK K hM
  have hC := Lib.hid (concat_any vs.length x2 c2 sl yss _ w2 hvl ho hr HT.out)
  have H2 := Lib.hid (HW.out.trans h2)
  clear ho hr h2 HW HT
  refine wpList_plain rfl fun K hK => ?_
  go_simp
  refine hC.out.mono ?_
  rintro e w3 ⟨y, q, d, rfl, hO, h3⟩
  refine hK _ _ ?_
  clear hK K hC
  have HF := Lib.hid (And.intro (hO.mono (show w.heap.size ≤ w2.heap.size from H2.out.size)) (H2.out.trans (h3.mono H2.out.size)))
  clear hO h3 H2
  go_wp2_with fail
  go_ret
  exact ⟨_, _, _, rfl, HF.out⟩
set_option maxRecDepth 100000 in
set_option maxHeartbeats 2000000 in
theorem laid_listo (B : Nat) (bx : Option Addr) (bn bd : Nat) (x : Option Addr) (m c : Nat) (vs : List Value) (yss : List (List Nat)) (w : World) (hB : B ≤ w.heap.size) (hvl : vs.length ≤ 100000) (hlen : yss.length = vs.length) (htot : (laL yss).length ≤ 4096) (hI : Itso B w (.slice x m c) vs) (hH : HD w)
    (hL : ∀ (i : Nat) v ys, vs[i]? = some v → yss[i]? = some ys → ∀ X, Below w.heap.size w X → Calls Tryd.prog 28 #[v] X fun e w' => ∃ y m d, e = .returned (.slice y m d) ∧ Ow w' X.heap.size (.slice y m d) ys ∧ Below X.heap.size X w') :
    Calls Tryd.prog 28 #[.agg #[.bool true, .slice bx bn bd, .slice x m c]] w fun e w' => ∃ y m d, e = .returned (.slice y m d) ∧ Ow w' w.heap.size (.slice y m d) (laL yss) ∧ Below w.heap.size w w' := by
  have hW := balloc (Below.refl w.heap.size w) (.cells #[.bool true, .slice bx bn bd, .slice x m c] 25)
  have ht : toL yss ≤ 4096 := by unfold laL toL at htot; simp only [List.length_append] at htot; unfold toL; omega
  have hJ := Lib.hid (joined_o B x m c vs yss _ (by rw [World.size_alloc]; omega) hvl hlen ht (hI.new hW) (fun i v ys h1 h2 X hX => hL i v ys h1 h2 X (bstep hW hX)))
  have HW := Lib.hid (And.intro hW (hH.keep hW))
  have hla : laL yss = heL 192 (toL yss) ++ yss.flatten := rfl
  have HLA := Lib.hid (And.intro hla htot)
  clear hL hI hlen hvl hW hH hla htot
  go_enter Tryd.func28, Tryd.ntmps28
  go_wp2_with fail
  refine hJ.out.mono ?_
  rintro e w1 ⟨y1, m1, d1, rfl, hO, h1⟩
  rename_i K hK
  refine hK _ _ ?_
  clear hK K hJ
  have hm : m1 = toL yss := by obtain ⟨x, c, e⟩ := hO.is; injection e
  subst hm
  have hI1 := (Blk.new w 25 #[.bool true, .slice bx bn bd, .slice x m c]).keep h1
  have k0 : w1.cell? ⟨w.heap.size, 0, none⟩ = some (.bool true) := cell_of_row w1 _ 0 _ _ _ hI1
  have k1 : w1.cell? ⟨w.heap.size, 1, none⟩ = some (.slice bx bn bd) := cell_of_row w1 _ 1 _ _ _ hI1
  have k2 : w1.cell? ⟨w.heap.size, 2, none⟩ = some (.slice x m c) := cell_of_row w1 _ 2 _ _ _ hI1
  have hW1 := bstep HW.out.1 h1
  have hH1 := HW.out.2.keep h1
  have hbt := hO.bt
  have H1 := Lib.hid (And.intro hW1 (And.intro hH1 hbt))
  obtain ⟨q, hq⟩ : ∃ q, toL yss = q := ⟨_, rfl⟩
  rw [hq] at H1 ht HLA ⊢
  have HQ := Lib.hid hq
  have g1 : ¬ (4096 : Int) < (q : Int) := by omega
  clear hW1 hH1 hbt hO h1 HW hI1 hq
  go_wp2_with fail
  refine (kindOf_list bx bn bd x m c w1).mono ?_
  rintro e w2 ⟨rfl, h2⟩
  rename_i K hK
  refine hK _ _ ?_
  clear hK K k0 k1 k2
  obtain ⟨hW1, hH1, hbt⟩ := H1.out
  have hho := Lib.hid (head_any 2 q (by omega) ht w2 (hH1.keep h2))
  have H2 := Lib.hid (And.intro (bstep hW1 h2) ((hbt.mono (Nat.le_refl _)).new h2))
  have hsz2 := (bstep hW1 h2).size
  have hsz1 := h2.size
  clear hW1 hH1 hbt h2 H1
  refine wpList_plain rfl fun K hK => ?_
  go_simp
  refine hK _ _ ?_
  clear hK K
  refine wpList_plain rfl fun K hK => ?_
  go_simp
  refine hK _ _ ?_
  clear hK K
  refine wpList_plain rfl fun K hK => ?_
  go_simp
  refine hho.out.mono ?_
  rintro e w3 ⟨x3, m3, c3, rfl, hO3, h3⟩
  refine hK _ _ ?_
  clear hK K hho
  rw [show hdN 2 = 192 from rfl] at hO3
  have hlen3 := heL_len 192 q (by omega)
  obtain ⟨hl, hhl⟩ : ∃ hl, heL 192 q = hl := ⟨_, rfl⟩
  rw [hhl] at hO3 hlen3 HLA
  obtain ⟨hW2, hb2⟩ := H2.out
  have hW3 := bstep hW2 h3
  have H3 := Lib.hid (And.intro hO3 (And.intro (hb2.new h3) hW3))
  have hsz3 := h3.size
  have hfl : yss.flatten.length = q := HQ.out
  have HFL := Lib.hid hfl
  clear hO3 hW2 hb2 h3 hW3 H2 hhl hfl
  go_wp2_with (first
      | (at_builtin; refine wpList_app rfl _ _ rfl w2.heap.size hl H3.out.1 w1.heap.size yss.flatten H3.out.2.1 ?c1 ?c2 ?_)
      | fail)
  case c1 => have h := HFL.out; omega
  case c2 => exact hsz3
  intro y c4 w4 hO4 hg4
  have hB4 := H3.out.2.2.grown hg4 (Nat.le_trans hsz2 hsz3) (fun r e => Nat.le_trans hsz2 (H3.out.1.2.lt r e).1)
  have hO5 := hO4.mono hsz2
  rw [← HLA.out.1] at hO5
  have hs : (List.map List.length yss).sum = q := by rw [← HFL.out, List.length_flatten]
  have hn : (laL yss).length = hl.length + q := by rw [HLA.out.1, List.length_append, HFL.out]
  have h4 := HLA.out.2
  rw [hn] at h4
  rw [hs] at hO5 ⊢
  obtain ⟨k, hk⟩ : ∃ k, hl.length + q = k := ⟨_, rfl⟩
  rw [hk] at hO5 h4 ⊢
  have h4' : ¬ (4096 : Int) < (k : Int) := by omega
  have HF := Lib.hid (And.intro hO5 hB4)
  clear hO4 hO5 hB4 hg4 hn HLA H3 hs hk
  go_wp2_with fail
  go_ret
  exact ⟨_, _, _, rfl, HF.out⟩
end Go.Proofs.YtjmfnafbjfceoaaDoor
