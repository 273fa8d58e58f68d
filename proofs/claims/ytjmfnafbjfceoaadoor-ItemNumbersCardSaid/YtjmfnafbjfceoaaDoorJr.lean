/- item: trees of items as arguments lay them (an empty slice may point anywhere), small ones; few. -/
import Derived.Test.YtjmfnafbjfceoaaDoorJp
namespace Go.Proofs.YtjmfnafbjfceoaaDoor
open Go.RowKit Go.Shelf
attribute [local irreducible] lb wdG byA byC heL
/-- A slice that reads as these bytes; where it holds none, nothing is said of its place. -/
def Bto (B : Nat) (X : World) (v : Value) (l : List Nat) : Prop := (∀ x ∈ l, x < 256) ∧ ∃ x cap, v = .slice x l.length cap ∧ l.length ≤ cap ∧ l.length ≤ 9223372036854775807 ∧ (l ≠ [] → ∃ b o, x = some ⟨b, o, none⟩ ∧ b < B ∧ b < X.heap.size ∧ ∀ k u, l[k]? = some u → X.cell? ⟨b, o + k, none⟩ = some (.int .u8 (u : Nat)))
theorem Bto.kept {B : Nat} {X Y : World} {v : Value} {l : List Nat} (h : Bto B X v l) (hs : X.heap.size ≤ Y.heap.size) (hk : ∀ b, b < B → b < X.heap.size → Y.heap[b]? = X.heap[b]?) : Bto B Y v l := by
  obtain ⟨h1, x, cap, h2, h3, h4, h5⟩ := h
  refine ⟨h1, x, cap, h2, h3, h4, fun hl => ?_⟩
  obtain ⟨b, o, e, hb, hbx, hc⟩ := h5 hl
  refine ⟨b, o, e, hb, Nat.lt_of_lt_of_le hbx hs, fun k u hu => ?_⟩
  have hh := hk b hb hbx
  rw [← hc k u hu]; simp only [World.cell?, hh]
theorem Bto.new {B : Nat} {X Y : World} {v : Value} {l : List Nat} (h : Bto B X v l) (k : Below X.heap.size X Y) : Bto B Y v l := h.kept k.size fun b _ hx => k.block b hx
theorem Bt.bto {B : Nat} {X : World} {v : Value} {l : List Nat} (h : Bt B X v l) : Bto B X v l := by
  obtain ⟨h1, x, cap, h2, h3, h4, h5⟩ := h
  refine ⟨h1, x, cap, h2, h3, Nat.le_trans h3 h4, fun hl => ?_⟩
  rcases h5 with ⟨_, h, _⟩ | ⟨b, o, e, hb, hc⟩
  · exact (hl h).elim
  · exact ⟨b, o, e, (hb hl).1, (hb hl).2, hc⟩
/-- A slice of items as an argument lays it. -/
def Itso (B : Nat) (X : World) (iv : Value) (vs : List Value) : Prop := ∃ x cap, iv = .slice x vs.length cap ∧ vs.length ≤ 9223372036854775807 ∧ (vs ≠ [] → ∃ b o, x = some ⟨b, o, none⟩ ∧ b < B ∧ b < X.heap.size ∧
  ∀ i v, vs[i]? = some v → ∃ c1 x1 n1 d1 y1 m1 e1, v = .agg #[.bool c1, .slice x1 n1 d1, .slice y1 m1 e1] ∧ X.cell? ⟨b, o + i * 3, none⟩ = some (.bool c1) ∧ X.cell? ⟨b, o + i * 3 + 1, none⟩ = some (.slice x1 n1 d1) ∧ X.cell? ⟨b, o + i * 3 + 2, none⟩ = some (.slice y1 m1 e1))
theorem Itso.kept {B : Nat} {X Y : World} {iv : Value} {vs : List Value} (h : Itso B X iv vs) (hs : X.heap.size ≤ Y.heap.size) (hk : ∀ b, b < B → b < X.heap.size → Y.heap[b]? = X.heap[b]?) : Itso B Y iv vs := by
  obtain ⟨x, cap, h2, h3, h5⟩ := h
  refine ⟨x, cap, h2, h3, fun hv => ?_⟩
  obtain ⟨b, o, e, hb, hbx, hc⟩ := h5 hv
  refine ⟨b, o, e, hb, Nat.lt_of_lt_of_le hbx hs, fun i v hi => ?_⟩
  obtain ⟨c1, x1, n1, d1, y1, m1, e1, e, k0, k1, k2⟩ := hc i v hi
  have hh := hk b hb hbx
  exact ⟨c1, x1, n1, d1, y1, m1, e1, e, by rw [← k0]; simp only [World.cell?, hh], by rw [← k1]; simp only [World.cell?, hh], by rw [← k2]; simp only [World.cell?, hh]⟩
theorem Itso.new {B : Nat} {X Y : World} {iv : Value} {vs : List Value} (h : Itso B X iv vs) (k : Below X.heap.size X Y) : Itso B Y iv vs := h.kept k.size fun b _ hx => k.block b hx
/-- Small: at most 600 bytes and 600 items at each place. -/
inductive smT : It → Prop
  | mk (b : Bool) (l : List Nat) (ts : List It) (h1 : l.length ≤ 600) (h2 : ts.length ≤ 600) (h3 : ∀ (i : Nat) t, ts[i]? = some t → smT t) : smT (It.mk b l ts)
/-- An item as an argument lays it, in blocks below B. -/
inductive ItO (B : Nat) (X : World) : It → Value → Prop
  | mk (b : Bool) (l : List Nat) (ts : List It) (v1 iv : Value) (vs : List Value) (h1 : Bto B X v1 l) (h2 : Itso B X iv vs) (hl : vs.length = ts.length) (hs : ∀ (i : Nat) t v, ts[i]? = some t → vs[i]? = some v → ItO B X t v) : ItO B X (It.mk b l ts) (.agg #[.bool b, v1, iv])
theorem ItO.kept {B : Nat} {X Y : World} {t : It} {v : Value} (h : ItO B X t v) (hs : X.heap.size ≤ Y.heap.size) (hk : ∀ b, b < B → b < X.heap.size → Y.heap[b]? = X.heap[b]?) : ItO B Y t v := by
  induction h with
  | mk b l ts v1 iv vs h1 h2 hl _ ih => exact ItO.mk b l ts v1 iv vs (h1.kept hs hk) (h2.kept hs hk) hl ih
theorem ItO.new {B : Nat} {X Y : World} {t : It} {v : Value} (h : ItO B X t v) (k : Below X.heap.size X Y) : ItO B Y t v := h.kept k.size fun b _ hx => k.block b hx
theorem ItO.is {B : Nat} {X : World} {t : It} {v : Value} (h : ItO B X t v) : ∃ b x m c y n d, v = itW b x m c y n d := by
  cases h with
  | mk b l ts v1 iv vs h1 h2 hl hs =>
    obtain ⟨_, x, c, rfl, _⟩ := h1
    obtain ⟨y, d, rfl, _⟩ := h2
    exact ⟨b, x, _, c, y, _, d, rfl⟩

set_option maxRecDepth 100000 in
set_option maxHeartbeats 4000000 in
/-- What is left of so many. -/
theorem few_any (B : Nat) (X : World) (t : It) (v : Value) (hv : ItO B X t v) : ∀ (L : Int) (w : World), 0 < L → L ≤ 600 → Below X.heap.size X w →
    Calls Tryd.prog 8 #[v, .int .i64 L] w fun e w' => (∃ r : Int, e = .returned (.int .i64 r) ∧ r ≤ L - 1 ∧ (0 < r → smT t)) ∧ Below w.heap.size w w' := by
  induction hv with
  | mk b l ts v1 iv vs h1 h2 hl hs ih =>
    intro L w hL0 hL hX
    obtain ⟨_, x, c, rfl, _, hlen, _⟩ := h1
    obtain ⟨y, d, rfl, hn, h2⟩ := h2
    obtain ⟨N, hNN⟩ : ∃ N, vs.length = N := ⟨_, rfl⟩
    obtain ⟨m, hm⟩ : ∃ m, l.length = m := ⟨_, rfl⟩
    have HI := Lib.hid (And.intro hNN (And.intro hl (And.intro hm (And.intro h2 (And.intro hs ih)))))
    rw [hNN] at hn ⊢
    rw [hm] at hlen ⊢
    clear hs ih h2 hl hm hNN
    have g1 : IntKind.i64.wrap (L - 1) = L - 1 := IntWalk.i64_in _ (by omega)
    have g2 : IntKind.i64.wrap (L - 1 - (m : Int)) = L - 1 - (m : Int) := IntWalk.i64_in _ (by omega)
    have hW := balloc (Below.refl w.heap.size w) (.cells #[.bool b, .slice x m c, .slice y N d] 25)
    have HW := Lib.hid (And.intro hW hX)
    clear hW hX
    go_enter Tryd.func8, Tryd.ntmps8
    go_wp2_with fail
    go_loopw [1, 5] (fun q i wr => ∃ k : Nat, ∃ r : Int, i = .int .i64 (k : Int) ∧ q = .int .i64 r ∧ k ≤ N ∧ r ≤ L - 1 - m - k ∧ (0 < r → ∀ j t, j < k → ts[j]? = some t → smT t) ∧ Blk wr w.heap.size 25 #[.bool b, .slice x m c, .slice y N d] ∧ Below w.heap.size w wr) (fun _ i _ => N - (intOf i).toNat)
    case atStart => exact ⟨0, _, rfl, rfl, by omega, by omega, fun _ j t h => by omega, Blk.new _ _ _, HW.out.1⟩
    case round =>
      obtain ⟨k, r, rfl, rfl, hk, hr, hsm, hB, hbl⟩ := hrel
      have cX0 := cell_of_row _ _ 0 _ _ _ hB
      have cX1 := cell_of_row _ _ 1 _ _ _ hB
      have cX2 := cell_of_row _ _ 2 _ _ _ hB
      by_cases hlt : k < N
      · by_cases hr0 : 0 < r
        · obtain ⟨hNN, hl, hm, h2, hs, ih⟩ := HI.out
          have hkI : (k : Int) < (N : Int) := by omega
          have hk0 : ¬ (k : Int) < 0 := by omega
          have hkv : k < vs.length := by omega
          have hkt : k < ts.length := by omega
          obtain ⟨v, hv⟩ : ∃ v, vs[k]? = some v := ⟨vs[k], by simp [hkv]⟩
          obtain ⟨t, ht⟩ : ∃ t, ts[k]? = some t := ⟨ts[k], by simp [hkt]⟩
          obtain ⟨b1, o, rfl, hb, hbx, hc⟩ := h2 (fun e => by rw [e] at hv; simp at hv)
          obtain ⟨c1, x1, n1, d1, y1, m1, e1, hve, k0, k1, k2⟩ := hc k v hv
          have hXr := bstep HW.out.2 hbl
          have k0 := (hXr.cell (p := ⟨b1, o + k * 3, none⟩) hbx).trans k0
          have k1 := (hXr.cell (p := ⟨b1, o + k * 3 + 1, none⟩) hbx).trans k1
          have k2 := (hXr.cell (p := ⟨b1, o + k * 3 + 2, none⟩) hbx).trans k2
          have g3 : IntKind.i64.wrap ((k : Int) + 1) = (k : Int) + 1 := IntWalk.i64_in _ (by omega)
          have hcall := ih k t v ht hv r wr hr0 (by omega) hXr
          rw [hve] at hcall
          have HC := Lib.hid hcall
          have HK := Lib.hid (And.intro hsm (And.intro hbl (And.intro ht hB)))
          clear hB hc hv hve hsm hbl hbx hb hcall hXr hs ih hNN hl hm ht hkv hkt
          go_wp2_with fail
          refine HC.out.mono ?_
          rintro e w2 ⟨⟨r2, rfl, hr2, hs2⟩, h2⟩
          clear HC k0 k1 k2 cX0 cX1 cX2
          have HE := Lib.hid (And.intro hr2 (And.intro hs2 h2))
          clear hr2 hs2 h2
          go_wp2_with fail
          refine ⟨⟨k + 1, r2, by go_num, rfl, by omega, by have := HE.out.1; omega, fun h0 j t' hj ht' => ?_, HK.out.2.2.2.keep HE.out.2.2, bstep HK.out.2.1 HE.out.2.2⟩, by simp [intOf]; omega⟩
          by_cases hjk : j = k
          · subst hjk
            have := HK.out.2.2.1
            rw [this] at ht'
            cases ht'
            exact HE.out.2.1 h0
          · exact HK.out.1 hr0 j t' (by omega) ht'
        · have HK := Lib.hid (And.intro hr hbl)
          clear hr hbl hsm hB
          go_wp2_with fail
          go_ret
          exact ⟨⟨r, rfl, by have := HK.out.1; omega, fun h => by omega⟩, HK.out.2⟩
      · obtain rfl : k = N := by omega
        have hI := HI.out
        have hres : 0 < r → smT (.mk b l ts) := fun h0 => smT.mk b l ts (by omega) (by omega) (fun i t hi => hsm h0 i t (by have := (List.getElem?_eq_some_iff.1 hi).1; omega) hi)
        have HK := Lib.hid (And.intro hr (And.intro hres hbl))
        clear hr hbl hsm hres hI hB
        go_wp2_with fail
        go_ret
        exact ⟨⟨r, rfl, by have := HK.out.1; omega, HK.out.2.1⟩, HK.out.2.2⟩
set_option maxRecDepth 100000 in
set_option maxHeartbeats 4000000 in
theorem index_itemso (g : FuncId) (cap : Array Value) (eg : ∀ args w, (callFunc g args).run Tryd.prog w = .ok (.enter g args) w) (B : Nat) (iv : Value) (vs : List Value) (p : Nat → Bool) (w : World) (_hB : B ≤ w.heap.size) (hN : vs.length ≤ 100000) (hI : Itso B w iv vs)
    (hF : ∀ (i : Nat) v, vs[i]? = some v → ∀ X, Below w.heap.size w X → Calls Tryd.prog g (#[v] ++ cap) X fun e w' => e = .returned (.bool (p i)) ∧ Below X.heap.size X w') :
    Calls Tryd.prog 66 #[iv, .func (.func g) #[] cap] w fun e w' => (∃ r : Int, e = .returned (.int .i64 r) ∧ decide (0 ≤ r) = (List.range vs.length).any p) ∧ Below w.heap.size w w' := by
  obtain ⟨x, c, rfl, hc1, hI⟩ := hI
  have HI := Lib.hid hI
  have HF := Lib.hid hF
  obtain ⟨N, hNN⟩ : ∃ N, vs.length = N := ⟨_, rfl⟩
  have HNN := Lib.hid hNN
  rw [hNN] at hN hc1 ⊢
  clear hI hF hNN
  go_enter Tryd.func66, Tryd.ntmps66
  go_wp2_with fail
  go_loopw [8] (fun i wr => ∃ k : Nat, i = .int .i64 (k : Int) ∧ k ≤ N ∧ (∀ j, j < k → p j = false) ∧ Below w.heap.size w wr) (fun i _ => N - (intOf i).toNat)
  case atStart => exact ⟨0, rfl, by omega, fun j h => by omega, Below.refl _ _⟩
  case round =>
    obtain ⟨k, rfl, hk, hno, hbl⟩ := hrel
    by_cases hlt : k < N
    · have hkI : (k : Int) < (N : Int) := by omega
      have hk0 : ¬ (k : Int) < 0 := by omega
      obtain ⟨v, hv⟩ : ∃ v, vs[k]? = some v := ⟨vs[k]'(by rw [HNN.out]; exact hlt), by simp [HNN.out, hlt]⟩
      obtain ⟨b, o, rfl, hb, hbx, hc⟩ := HI.out (fun e => by rw [e] at hv; simp at hv)
      obtain ⟨c1, x1, n1, d1, y1, m1, e1, hve, k0, k1, k2⟩ := hc k v hv
      have hb0 : b < w.heap.size := by omega
      have k0 := (hbl.cell (p := ⟨b, o + k * 3, none⟩) hb0).trans k0
      have k1 := (hbl.cell (p := ⟨b, o + k * 3 + 1, none⟩) hb0).trans k1
      have k2 := (hbl.cell (p := ⟨b, o + k * 3 + 2, none⟩) hb0).trans k2
      have g1 : IntKind.i64.wrap ((k : Int) + 1) = (k : Int) + 1 := IntWalk.i64_in _ (by omega)
      have hcall := HF.out k v hv wr hbl
      rw [hve] at hcall
      have HC := Lib.hid hcall
      have HK := Lib.hid (And.intro hno hbl)
      clear hc hv hve hno hbl hbx hb hb0 hcall
      go_wp2_with fail
      refine HC.out.mono ?_
      rintro e w2 ⟨rfl, h2⟩
      clear HC k0 k1 k2
      have hb2 := bstep HK.out.2 h2
      cases hp : p k with
      | true =>
        have hany : (List.range N).any p = true := List.any_eq_true.2 ⟨k, List.mem_range.2 hlt, hp⟩
        have HE := Lib.hid (And.intro hany hb2)
        clear hany hb2 h2 hp
        go_wp2_with fail
        go_ret
        exact ⟨⟨k, rfl, by rw [HE.out.1]; simp⟩, HE.out.2⟩
      | false =>
        have hno2 : ∀ j, j < k + 1 → p j = false := fun j hj => by
          by_cases h : j = k
          · rw [h]; exact hp
          · exact HK.out.1 j (by omega)
        have HE := Lib.hid (And.intro hno2 hb2)
        clear hno2 hb2 h2 hp
        go_wp2_with fail
        exact ⟨⟨k + 1, by go_num, by omega, HE.out⟩, by simp [intOf]; omega⟩
    · obtain rfl : k = N := by omega
      have hany : (List.range k).any p = false := by
        rw [List.any_eq_false]; intro j hj; rw [hno j (List.mem_range.1 hj)]; simp
      have HK := Lib.hid (And.intro hany hbl)
      clear hno hbl hany
      go_wp2_with fail
      go_ret
      exact ⟨⟨-1, rfl, by rw [HK.out.1]; rfl⟩, HK.out.2⟩

set_option maxRecDepth 100000 in
set_option maxHeartbeats 2000000 in
theorem contains_itemso (g : FuncId) (cap : Array Value) (eg : ∀ args w, (callFunc g args).run Tryd.prog w = .ok (.enter g args) w) (B : Nat) (iv : Value) (vs : List Value) (p : Nat → Bool) (w : World) (hB : B ≤ w.heap.size) (hN : vs.length ≤ 100000) (hI : Itso B w iv vs)
    (hF : ∀ (i : Nat) v, vs[i]? = some v → ∀ X, Below w.heap.size w X → Calls Tryd.prog g (#[v] ++ cap) X fun e w' => e = .returned (.bool (p i)) ∧ Below X.heap.size X w') :
    Calls Tryd.prog 46 #[iv, .func (.func g) #[] cap] w fun e w' => e = .returned (.bool ((List.range vs.length).any p)) ∧ Below w.heap.size w w' := by
  have HC := Lib.hid (index_itemso g cap eg B iv vs p w hB hN hI hF)
  obtain ⟨x, c, rfl, _⟩ := hI
  clear hF
  go_enter Tryd.func46, Tryd.ntmps46
  go_wp2_with fail
  refine HC.out.mono ?_
  rintro e w2 ⟨⟨r, rfl, hr⟩, h2⟩
  rename_i K hK
  refine hK _ _ ?_
  clear hK K HC
  have HE := Lib.hid (And.intro hr h2)
  clear hr h2
  go_wp2_with fail
  go_ret
  exact ⟨by rw [← HE.out.1]; rfl, HE.out.2⟩

set_option maxRecDepth 100000 in
set_option maxHeartbeats 4000000 in
/-- Whether an item may be. -/
theorem mayBe_o (d : Nat) (hd : d ≤ 8) : ∀ (t : It) (v : Value) (B : Nat) (w : World), B ≤ w.heap.size → ItO B w t v → smT t →
    Calls Tryd.prog 25 #[v, .int .i64 (9 - d : Nat)] w fun e w' => e = .returned (.bool (rtB d t)) ∧ Below w.heap.size w w' := by
  have hmf : ∀ (fn : Fn) (first cap : Array Value) (w : World), (Instr.makeFunc fn first cap).run Tryd.prog w = .ok (.func fn first cap) w := fun _ _ _ _ => rfl
  induction d with
  | zero =>
    intro t v B w hB hv hsm
    obtain ⟨b, x, m, c, y, n, d, rfl⟩ := hv.is
    have hW := balloc (balloc (Below.refl w.heap.size w) (.cells #[.bool b, .slice x m c, .slice y n d] 25)) (.cells #[.int .i64 9] 3)
    have HW := Lib.hid hW
    clear hW hv hsm
    unfold rtB
    go_enter Tryd.func25, Tryd.ntmps25
    go_wp2_with fail
    go_ret
    exact ⟨rfl, HW.out⟩
  | succ d ih =>
    intro t v B w hB hv hsm
    cases hv with
    | mk b l ts v1 iv vs h1 h2 hl hs =>
      obtain ⟨hq1, hN, hq3⟩ : l.length ≤ 600 ∧ vs.length ≤ 100000 ∧ ∀ (i : Nat) t, ts[i]? = some t → smT t := by cases hsm with | mk _ _ _ q1 q2 q3 => exact ⟨q1, by omega, q3⟩
      obtain ⟨_, x, c, rfl, _⟩ := h1
      have hdd : ((9 - (d + 1) : Nat) : Int) = 8 - d := by omega
      have g0 : ¬ (8 : Int) < 8 - (d : Int) := by omega
      have g1 : IntKind.i64.wrap (8 - (d : Int) + 1) = ((9 - d : Nat) : Int) := (IntWalk.i64_in _ (by omega)).trans (by omega)
      rw [hdd]
      have hW := balloc (balloc (Below.refl w.heap.size w) (.cells #[.bool b, .slice x l.length c, iv] 25)) (.cells #[.int .i64 (8 - d)] 3)
      have hD := Blk.newS w (.cells #[.bool b, .slice x l.length c, iv] 25) 3 #[.int .i64 (8 - d)]
      have hI2 := h2.new hW
      have hs2 : ∀ (i : Nat) v, vs[i]? = some v → ∃ t, ts[i]? = some t ∧ ItO B w t v ∧ smT t := fun i v hv => by
        have hi : i < vs.length := (List.getElem?_eq_some_iff.1 hv).1
        refine ⟨ts[i]'(by omega), by simp [show i < ts.length by omega], hs i _ v (by simp [show i < ts.length by omega]) hv, hq3 i _ (by simp [show i < ts.length by omega])⟩
      have hempty : ((vs.length : Int) == 0) = ts.isEmpty := by
        rw [Bool.eq_iff_iff]; simp [List.isEmpty_iff, ← List.length_eq_zero_iff]; omega
      obtain ⟨y, e, rfl, _⟩ := id h2
      have hrt : rtB (d + 1) (.mk b l ts) = if b then l.isEmpty && ts.all (rtB d) else ts.isEmpty := rfl
      have hC := contains_itemso 47 #[.pointer (some ⟨w.heap.size + 1, 0, none⟩)] (enters_of Tryd.func47 (by kernel_rfl) rfl) B _ vs (fun i => !((ts[i]?).map (rtB d)).getD true) _ (Nat.le_trans hB hW.size) hN hI2 (fun i v hv X hX => by
        obtain ⟨t, ht, hit, hst⟩ := hs2 i v hv
        obtain ⟨b3, x3, m3, c3, y3, n3, d3, rfl⟩ := hit.is
        have hDX := hD.keep hX
        have hX2 := balloc (Below.refl X.heap.size X) (.cells #[.bool b3, .slice x3 m3 c3, .slice y3 n3 d3] 25)
        have hm := Lib.hid (ih (by omega) t _ B _ (Nat.le_trans hB (bstep (bstep hW hX) hX2).size) (hit.new (bstep (bstep hW hX) hX2)) hst)
        have cD := cell_of_row _ _ 0 _ _ _ (hDX.alloc (.cells #[.bool b3, .slice x3 m3 c3, .slice y3 n3 d3] 25))
        have HX2 := Lib.hid hX2
        have hpi : (!((ts[i]?).map (rtB d)).getD true) = !(rtB d t) := by rw [ht]; rfl
        rw [hpi]
        clear hDX hX2 hpi ht hit hst hs2 hI2 hD hW hs h2 hempty hrt
        go_enter Tryd.func47, Tryd.ntmps47
        go_wp2_with fail
        refine hm.out.mono ?_
        rintro e w2 ⟨rfl, h2⟩
        have HE := Lib.hid (bstep HX2.out h2)
        clear h2 hm HX2
        go_wp2_with fail
        go_ret
        exact ⟨rfl, HE.out⟩)
      have hall : (!(List.range vs.length).any (fun i => !((ts[i]?).map (rtB d)).getD true)) = ts.all (rtB d) := by
        rw [Bool.eq_iff_iff]
        simp only [Bool.not_eq_true', List.any_eq_false, List.mem_range, List.all_eq_true]
        constructor
        · intro h t ht
          obtain ⟨i, hi⟩ := List.mem_iff_getElem?.1 ht
          have := h i (by rw [hl]; exact (List.getElem?_eq_some_iff.1 hi).1)
          rw [hi] at this
          simpa using this
        · intro h i hi
          have hi2 : i < ts.length := by omega
          rw [show ts[i]? = some ts[i] by simp [hi2]]
          simpa using h _ (List.getElem_mem hi2)
      have HC := Lib.hid hC
      have HALL := Lib.hid hall
      have HRT := Lib.hid hrt
      have HW := Lib.hid hW
      obtain ⟨q, hq⟩ : ∃ q, (List.range vs.length).any (fun i => !((ts[i]?).map (rtB d)).getD true) = q := ⟨_, rfl⟩
      rw [hq] at HC HALL
      clear hC hall hrt hW hD hI2 hs2 hs h2 hq ih
      obtain ⟨N, hNN⟩ : ∃ N, vs.length = N := ⟨_, rfl⟩
      rw [hNN] at hempty HC HW ⊢
      obtain ⟨ie, hie⟩ : ∃ ie, ts.isEmpty = ie := ⟨_, rfl⟩
      rw [hie] at hempty HRT
      clear hNN hl hie
      cases b with
      | false =>
        have h3 := HRT.out
        rw [if_neg (by simp)] at h3
        rw [h3]
        clear h3 HRT
        go_enter Tryd.func25, Tryd.ntmps25
        go_wp2_with fail
        go_ret
        exact ⟨rfl, HW.out⟩
      | true =>
        have h3 := HRT.out
        rw [if_pos rfl] at h3
        by_cases hl0 : l = []
        · subst hl0
          rw [h3, ← HALL.out, show ([] : List Nat).isEmpty = true from rfl, Bool.true_and]
          clear h3 HRT HALL hempty
          go_enter Tryd.func25, Tryd.ntmps25
          go_wp2_with fail
          refine HC.out.mono ?_
          rintro e w2 ⟨rfl, h2⟩
          have HE := Lib.hid (bstep HW.out h2)
          clear h2 HC HW
          go_wp2_with fail
          go_ret
          exact ⟨rfl, HE.out⟩
        · have hle : l.isEmpty = false := by simpa using hl0
          have hlI : ((l.length : Int) == 0) = false := by
            have : l.length ≠ 0 := fun e => hl0 (List.length_eq_zero_iff.1 e)
            simp; exact hl0
          rw [h3, hle, Bool.false_and]
          obtain ⟨k, hk⟩ : ∃ k, l.length = k := ⟨_, rfl⟩
          rw [hk] at hlI HW HC ⊢
          clear h3 HRT HALL hempty hle hl0 hk
          go_enter Tryd.func25, Tryd.ntmps25
          go_wp2_with fail
          go_ret
          exact ⟨rfl, HW.out⟩
end Go.Proofs.YtjmfnafbjfceoaaDoor
