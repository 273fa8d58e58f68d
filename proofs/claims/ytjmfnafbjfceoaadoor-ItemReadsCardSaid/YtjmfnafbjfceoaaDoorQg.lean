/- Texts laid into one: Qg. -/
import Derived.Test.YtjmfnafbjfceoaaDoorQf
/- item: trees of items as arguments lay them (an empty slice may point anywhere), small ones; few. -/
namespace Go.Proofs.YtjmfnafbjfceoaaDoor
open Go.RowKit Go.Shelf
attribute [local irreducible] lb wdG byA byC heL
/-- A slice that reads as these bytes; where it holds none, nothing is said of its place. -/
def Bto (B : Nat) (X : World) (v : Value) (l : List Nat) : Prop := (∀ x ∈ l, x < 256) ∧ ∃ x cap, v = .slice x l.length cap ∧ l.length ≤ cap ∧ l.length ≤ 9223372036854775807 ∧ (l ≠ [] → ∃ b o, x = some ⟨b, o, none⟩ ∧ b < B ∧ b < X.heap.size ∧ ∀ k u, l[k]? = some u → X.cell? ⟨b, o + k, none⟩ = some (.int .u8 (u : Nat)))
theorem Bto.kept {B : Nat} {X Y : World} {v : Value} {l : List Nat} (h : Bto B X v l) (hs : X.heap.size ≤ Y.heap.size) (hk : ∀ b, b < B → b < X.heap.size → Y.heap[b]? = X.heap[b]?) : Bto B Y v l := by
  obtain ⟨h1, x, cap, h2, h3, h4, h5⟩ := h
  refine ⟨h1, x, cap, h2, h3, h4, fun hl => ?_⟩
  obtain ⟨b, o, e, hb, hbx, hc⟩ := h5 hl
  refine ⟨b, o, e, hb, Nat.lt_of_lt_of_le hbx hs, fun k u hu => ?_⟩
  have hh := hk b hb hbx
  rw [← hc k u hu]; simp only [World.cell?, hh]
theorem Bto.new {B : Nat} {X Y : World} {v : Value} {l : List Nat} (h : Bto B X v l) (k : Below X.heap.size X Y) : Bto B Y v l := h.kept k.size fun b _ hx => k.block b hx
theorem Bt.bto {B : Nat} {X : World} {v : Value} {l : List Nat} (h : Bt B X v l) : Bto B X v l := by
  obtain ⟨h1, x, cap, h2, h3, h4, h5⟩ := h
  refine ⟨h1, x, cap, h2, h3, Nat.le_trans h3 h4, fun hl => ?_⟩
  rcases h5 with ⟨_, h, _⟩ | ⟨b, o, e, hb, hc⟩
  · exact (hl h).elim
  · exact ⟨b, o, e, (hb hl).1, (hb hl).2, hc⟩
theorem Bt.n0 {B : Nat} {X : World} {v : Value} {l : List Nat} (h1 : Bt B X v l) : ∀ n c, v = .slice none n c → c = 0 := fun n c e => by
  obtain ⟨_, x, cap, e1, _, _, h⟩ := h1
  rw [e] at e1
  cases e1
  rcases h with ⟨_, _, h⟩ | ⟨_, _, h, _⟩
  · exact h
  · cases h
/-- A slice of items as an argument lays it. -/
def Itso (B : Nat) (X : World) (iv : Value) (vs : List Value) : Prop := ∃ x cap, iv = .slice x vs.length cap ∧ vs.length ≤ 9223372036854775807 ∧ (vs ≠ [] → ∃ b o, x = some ⟨b, o, none⟩ ∧ b < B ∧ b < X.heap.size ∧
  ∀ i v, vs[i]? = some v → ∃ c1 x1 n1 d1 y1 m1 e1, v = .agg #[.bool c1, .slice x1 n1 d1, .slice y1 m1 e1] ∧ X.cell? ⟨b, o + i * 3, none⟩ = some (.bool c1) ∧ X.cell? ⟨b, o + i * 3 + 1, none⟩ = some (.slice x1 n1 d1) ∧ X.cell? ⟨b, o + i * 3 + 2, none⟩ = some (.slice y1 m1 e1))
theorem Itso.kept {B : Nat} {X Y : World} {iv : Value} {vs : List Value} (h : Itso B X iv vs) (hs : X.heap.size ≤ Y.heap.size) (hk : ∀ b, b < B → b < X.heap.size → Y.heap[b]? = X.heap[b]?) : Itso B Y iv vs := by
  obtain ⟨x, cap, h2, h3, h5⟩ := h
  refine ⟨x, cap, h2, h3, fun hv => ?_⟩
  obtain ⟨b, o, e, hb, hbx, hc⟩ := h5 hv
  refine ⟨b, o, e, hb, Nat.lt_of_lt_of_le hbx hs, fun i v hi => ?_⟩
  obtain ⟨c1, x1, n1, d1, y1, m1, e1, e, k0, k1, k2⟩ := hc i v hi
  have hh := hk b hb hbx
  exact ⟨c1, x1, n1, d1, y1, m1, e1, e, by rw [← k0]; simp only [World.cell?, hh], by rw [← k1]; simp only [World.cell?, hh], by rw [← k2]; simp only [World.cell?, hh]⟩
theorem Itso.new {B : Nat} {X Y : World} {iv : Value} {vs : List Value} (h : Itso B X iv vs) (k : Below X.heap.size X Y) : Itso B Y iv vs := h.kept k.size fun b _ hx => k.block b hx
/-- Small: at most 600 bytes and 600 items at each place. -/
inductive smT : It → Prop
  | mk (b : Bool) (l : List Nat) (ts : List It) (h1 : l.length ≤ 600) (h2 : ts.length ≤ 600) (h3 : ∀ (i : Nat) t, ts[i]? = some t → smT t) : smT (It.mk b l ts)
/-- An item as an argument lays it, in blocks below B. -/
inductive ItO (B : Nat) (X : World) : It → Value → Prop
  | mk (b : Bool) (l : List Nat) (ts : List It) (v1 iv : Value) (vs : List Value) (h1 : Bto B X v1 l) (h2 : Itso B X iv vs) (hl : vs.length = ts.length) (hs : ∀ (i : Nat) t v, ts[i]? = some t → vs[i]? = some v → ItO B X t v) (h0 : ∀ n c, v1 = .slice none n c → c = 0) : ItO B X (It.mk b l ts) (.agg #[.bool b, v1, iv])
theorem ItO.kept {B : Nat} {X Y : World} {t : It} {v : Value} (h : ItO B X t v) (hs : X.heap.size ≤ Y.heap.size) (hk : ∀ b, b < B → b < X.heap.size → Y.heap[b]? = X.heap[b]?) : ItO B Y t v := by
  induction h with
  | mk b l ts v1 iv vs h1 h2 hl _ h0 ih => exact ItO.mk b l ts v1 iv vs (h1.kept hs hk) (h2.kept hs hk) hl ih h0
theorem ItO.new {B : Nat} {X Y : World} {t : It} {v : Value} (h : ItO B X t v) (k : Below X.heap.size X Y) : ItO B Y t v := h.kept k.size fun b _ hx => k.block b hx
theorem ItO.is {B : Nat} {X : World} {t : It} {v : Value} (h : ItO B X t v) : ∃ b x m c y n d, v = itW b x m c y n d := by
  cases h with
  | mk b l ts v1 iv vs h1 h2 hl hs _ =>
    obtain ⟨_, x, c, rfl, _⟩ := h1
    obtain ⟨y, d, rfl, _⟩ := h2
    exact ⟨b, x, _, c, y, _, d, rfl⟩

set_option maxRecDepth 100000 in
set_option maxHeartbeats 4000000 in
/-- What is left of so many. -/
theorem few_any (B : Nat) (X : World) (t : It) (v : Value) (hv : ItO B X t v) : ∀ (L : Int) (w : World), 0 < L → L ≤ 600 → Below X.heap.size X w →
    Calls Tryd.prog 8 #[v, .int .i64 L] w fun e w' => (∃ r : Int, e = .returned (.int .i64 r) ∧ r ≤ L - 1 ∧ (0 < r → smT t)) ∧ Below w.heap.size w w' := by
  induction hv with
  | mk b l ts v1 iv vs h1 h2 hl hs _ ih =>
    intro L w hL0 hL hX
    obtain ⟨_, x, c, rfl, _, hlen, _⟩ := h1
    obtain ⟨y, d, rfl, hn, h2⟩ := h2
    obtain ⟨N, hNN⟩ : ∃ N, vs.length = N := ⟨_, rfl⟩
    obtain ⟨m, hm⟩ : ∃ m, l.length = m := ⟨_, rfl⟩
    have HI := Lib.hid (And.intro hNN (And.intro hl (And.intro hm (And.intro h2 (And.intro hs ih)))))
    rw [hNN] at hn ⊢
    rw [hm] at hlen ⊢
    clear hs ih h2 hl hm hNN
    have g1 : IntKind.i64.wrap (L - 1) = L - 1 := IntWalk.i64_in _ (by omega)
    have g2 : IntKind.i64.wrap (L - 1 - (m : Int)) = L - 1 - (m : Int) := IntWalk.i64_in _ (by omega)
    have hW := balloc (Below.refl w.heap.size w) (.cells #[.bool b, .slice x m c, .slice y N d] 25)
    have HW := Lib.hid (And.intro hW hX)
    clear hW hX
    go_enter Tryd.func8, Tryd.ntmps8
    go_wp2_with fail
    go_loopw [1, 5] (fun q i wr => ∃ k : Nat, ∃ r : Int, i = .int .i64 (k : Int) ∧ q = .int .i64 r ∧ k ≤ N ∧ r ≤ L - 1 - m - k ∧ (0 < r → ∀ j t, j < k → ts[j]? = some t → smT t) ∧ Blk wr w.heap.size 25 #[.bool b, .slice x m c, .slice y N d] ∧ Below w.heap.size w wr) (fun _ i _ => N - (intOf i).toNat)
    case atStart => exact ⟨0, _, rfl, rfl, by omega, by omega, fun _ j t h => by omega, Blk.new _ _ _, HW.out.1⟩
    case round =>
      obtain ⟨k, r, rfl, rfl, hk, hr, hsm, hB, hbl⟩ := hrel
      have cX0 := cell_of_row _ _ 0 _ _ _ hB
      have cX1 := cell_of_row _ _ 1 _ _ _ hB
      have cX2 := cell_of_row _ _ 2 _ _ _ hB
      by_cases hlt : k < N
      · by_cases hr0 : 0 < r
        · obtain ⟨hNN, hl, hm, h2, hs, ih⟩ := HI.out
          have hkI : (k : Int) < (N : Int) := by omega
          have hk0 : ¬ (k : Int) < 0 := by omega
          have hkv : k < vs.length := by omega
          have hkt : k < ts.length := by omega
          obtain ⟨v, hv⟩ : ∃ v, vs[k]? = some v := ⟨vs[k], by simp [hkv]⟩
          obtain ⟨t, ht⟩ : ∃ t, ts[k]? = some t := ⟨ts[k], by simp [hkt]⟩
          obtain ⟨b1, o, rfl, hb, hbx, hc⟩ := h2 (fun e => by rw [e] at hv; simp at hv)
          obtain ⟨c1, x1, n1, d1, y1, m1, e1, hve, k0, k1, k2⟩ := hc k v hv
          have hXr := bstep HW.out.2 hbl
          have k0 := (hXr.cell (p := ⟨b1, o + k * 3, none⟩) hbx).trans k0
          have k1 := (hXr.cell (p := ⟨b1, o + k * 3 + 1, none⟩) hbx).trans k1
          have k2 := (hXr.cell (p := ⟨b1, o + k * 3 + 2, none⟩) hbx).trans k2
          have g3 : IntKind.i64.wrap ((k : Int) + 1) = (k : Int) + 1 := IntWalk.i64_in _ (by omega)
          have hcall := ih k t v ht hv r wr hr0 (by omega) hXr
          rw [hve] at hcall
          have HC := Lib.hid hcall
          have HK := Lib.hid (And.intro hsm (And.intro hbl (And.intro ht hB)))
          clear hB hc hv hve hsm hbl hbx hb hcall hXr hs ih hNN hl hm ht hkv hkt
          go_wp2_with fail
          refine HC.out.mono ?_
          rintro e w2 ⟨⟨r2, rfl, hr2, hs2⟩, h2⟩
          clear HC k0 k1 k2 cX0 cX1 cX2
          have HE := Lib.hid (And.intro hr2 (And.intro hs2 h2))
          clear hr2 hs2 h2
          go_wp2_with fail
          refine ⟨⟨k + 1, r2, by go_num, rfl, by omega, by have := HE.out.1; omega, fun h0 j t' hj ht' => ?_, HK.out.2.2.2.keep HE.out.2.2, bstep HK.out.2.1 HE.out.2.2⟩, by simp [intOf]; omega⟩
          by_cases hjk : j = k
          · subst hjk
            have := HK.out.2.2.1
            rw [this] at ht'
            cases ht'
            exact HE.out.2.1 h0
          · exact HK.out.1 hr0 j t' (by omega) ht'
        · have HK := Lib.hid (And.intro hr hbl)
          clear hr hbl hsm hB
          go_wp2_with fail
          go_ret
          exact ⟨⟨r, rfl, by have := HK.out.1; omega, fun h => by omega⟩, HK.out.2⟩
      · obtain rfl : k = N := by omega
        have hI := HI.out
        have hres : 0 < r → smT (.mk b l ts) := fun h0 => smT.mk b l ts (by omega) (by omega) (fun i t hi => hsm h0 i t (by have := (List.getElem?_eq_some_iff.1 hi).1; omega) hi)
        have HK := Lib.hid (And.intro hr (And.intro hres hbl))
        clear hr hbl hsm hres hI hB
        go_wp2_with fail
        go_ret
        exact ⟨⟨r, rfl, by have := HK.out.1; omega, HK.out.2.1⟩, HK.out.2.2⟩
set_option maxRecDepth 100000 in
set_option maxHeartbeats 4000000 in
theorem index_itemso (g : FuncId) (cap : Array Value) (eg : ∀ args w, (callFunc g args).run Tryd.prog w = .ok (.enter g args) w) (B : Nat) (iv : Value) (vs : List Value) (p : Nat → Bool) (w : World) (_hB : B ≤ w.heap.size) (hN : vs.length ≤ 100000) (hI : Itso B w iv vs)
    (hF : ∀ (i : Nat) v, vs[i]? = some v → ∀ X, Below w.heap.size w X → Calls Tryd.prog g (#[v] ++ cap) X fun e w' => e = .returned (.bool (p i)) ∧ Below X.heap.size X w') :
    Calls Tryd.prog 66 #[iv, .func (.func g) #[] cap] w fun e w' => (∃ r : Int, e = .returned (.int .i64 r) ∧ decide (0 ≤ r) = (List.range vs.length).any p) ∧ Below w.heap.size w w' := by
  obtain ⟨x, c, rfl, hc1, hI⟩ := hI
  have HI := Lib.hid hI
  have HF := Lib.hid hF
  obtain ⟨N, hNN⟩ : ∃ N, vs.length = N := ⟨_, rfl⟩
  have HNN := Lib.hid hNN
  rw [hNN] at hN hc1 ⊢
  clear hI hF hNN
  go_enter Tryd.func66, Tryd.ntmps66
  go_wp2_with fail
  go_loopw [8] (fun i wr => ∃ k : Nat, i = .int .i64 (k : Int) ∧ k ≤ N ∧ (∀ j, j < k → p j = false) ∧ Below w.heap.size w wr) (fun i _ => N - (intOf i).toNat)
  case atStart => exact ⟨0, rfl, by omega, fun j h => by omega, Below.refl _ _⟩
  case round =>
    obtain ⟨k, rfl, hk, hno, hbl⟩ := hrel
    by_cases hlt : k < N
    · have hkI : (k : Int) < (N : Int) := by omega
      have hk0 : ¬ (k : Int) < 0 := by omega
      obtain ⟨v, hv⟩ : ∃ v, vs[k]? = some v := ⟨vs[k]'(by rw [HNN.out]; exact hlt), by simp [HNN.out, hlt]⟩
      obtain ⟨b, o, rfl, hb, hbx, hc⟩ := HI.out (fun e => by rw [e] at hv; simp at hv)
      obtain ⟨c1, x1, n1, d1, y1, m1, e1, hve, k0, k1, k2⟩ := hc k v hv
      have hb0 : b < w.heap.size := by omega
      have k0 := (hbl.cell (p := ⟨b, o + k * 3, none⟩) hb0).trans k0
      have k1 := (hbl.cell (p := ⟨b, o + k * 3 + 1, none⟩) hb0).trans k1
      have k2 := (hbl.cell (p := ⟨b, o + k * 3 + 2, none⟩) hb0).trans k2
      have g1 : IntKind.i64.wrap ((k : Int) + 1) = (k : Int) + 1 := IntWalk.i64_in _ (by omega)
      have hcall := HF.out k v hv wr hbl
      rw [hve] at hcall
      have HC := Lib.hid hcall
      have HK := Lib.hid (And.intro hno hbl)
      clear hc hv hve hno hbl hbx hb hb0 hcall
      go_wp2_with fail
      refine HC.out.mono ?_
      rintro e w2 ⟨rfl, h2⟩
      clear HC k0 k1 k2
      have hb2 := bstep HK.out.2 h2
      cases hp : p k with
      | true =>
        have hany : (List.range N).any p = true := List.any_eq_true.2 ⟨k, List.mem_range.2 hlt, hp⟩
        have HE := Lib.hid (And.intro hany hb2)
        clear hany hb2 h2 hp
        go_wp2_with fail
        go_ret
        exact ⟨⟨k, rfl, by rw [HE.out.1]; simp⟩, HE.out.2⟩
      | false =>
        have hno2 : ∀ j, j < k + 1 → p j = false := fun j hj => by
          by_cases h : j = k
          · rw [h]; exact hp
          · exact HK.out.1 j (by omega)
        have HE := Lib.hid (And.intro hno2 hb2)
        clear hno2 hb2 h2 hp
        go_wp2_with fail
        exact ⟨⟨k + 1, by go_num, by omega, HE.out⟩, by simp [intOf]; omega⟩
    · obtain rfl : k = N := by omega
      have hany : (List.range k).any p = false := by
        rw [List.any_eq_false]; intro j hj; rw [hno j (List.mem_range.1 hj)]; simp
      have HK := Lib.hid (And.intro hany hbl)
      clear hno hbl hany
      go_wp2_with fail
      go_ret
      exact ⟨⟨-1, rfl, by rw [HK.out.1]; rfl⟩, HK.out.2⟩

set_option maxRecDepth 100000 in
set_option maxHeartbeats 2000000 in
theorem contains_itemso (g : FuncId) (cap : Array Value) (eg : ∀ args w, (callFunc g args).run Tryd.prog w = .ok (.enter g args) w) (B : Nat) (iv : Value) (vs : List Value) (p : Nat → Bool) (w : World) (hB : B ≤ w.heap.size) (hN : vs.length ≤ 100000) (hI : Itso B w iv vs)
    (hF : ∀ (i : Nat) v, vs[i]? = some v → ∀ X, Below w.heap.size w X → Calls Tryd.prog g (#[v] ++ cap) X fun e w' => e = .returned (.bool (p i)) ∧ Below X.heap.size X w') :
    Calls Tryd.prog 46 #[iv, .func (.func g) #[] cap] w fun e w' => e = .returned (.bool ((List.range vs.length).any p)) ∧ Below w.heap.size w w' := by
  have HC := Lib.hid (index_itemso g cap eg B iv vs p w hB hN hI hF)
  obtain ⟨x, c, rfl, _⟩ := hI
  clear hF
  go_enter Tryd.func46, Tryd.ntmps46
  go_wp2_with fail
  refine HC.out.mono ?_
  rintro e w2 ⟨⟨r, rfl, hr⟩, h2⟩
  rename_i K hK
  refine hK _ _ ?_
  clear hK K HC
  have HE := Lib.hid (And.intro hr h2)
  clear hr h2
  go_wp2_with fail
  go_ret
  exact ⟨by rw [← HE.out.1]; rfl, HE.out.2⟩

set_option maxRecDepth 100000 in
set_option maxHeartbeats 4000000 in
/-- Whether an item may be. -/
theorem mayBe_o (d : Nat) (hd : d ≤ 8) : ∀ (t : It) (v : Value) (B : Nat) (w : World), B ≤ w.heap.size → ItO B w t v → smT t →
    Calls Tryd.prog 25 #[v, .int .i64 (9 - d : Nat)] w fun e w' => e = .returned (.bool (rtB d t)) ∧ Below w.heap.size w w' := by
  have hmf : ∀ (fn : Fn) (first cap : Array Value) (w : World), (Instr.makeFunc fn first cap).run Tryd.prog w = .ok (.func fn first cap) w := fun _ _ _ _ => rfl
  induction d with
  | zero =>
    intro t v B w hB hv hsm
    obtain ⟨b, x, m, c, y, n, d, rfl⟩ := hv.is
    have hW := balloc (balloc (Below.refl w.heap.size w) (.cells #[.bool b, .slice x m c, .slice y n d] 25)) (.cells #[.int .i64 9] 3)
    have HW := Lib.hid hW
    clear hW hv hsm
    unfold rtB
    go_enter Tryd.func25, Tryd.ntmps25
    go_wp2_with fail
    go_ret
    exact ⟨rfl, HW.out⟩
  | succ d ih =>
    intro t v B w hB hv hsm
    cases hv with
    | mk b l ts v1 iv vs h1 h2 hl hs _ =>
      obtain ⟨hq1, hN, hq3⟩ : l.length ≤ 600 ∧ vs.length ≤ 100000 ∧ ∀ (i : Nat) t, ts[i]? = some t → smT t := by cases hsm with | mk _ _ _ q1 q2 q3 => exact ⟨q1, by omega, q3⟩
      obtain ⟨_, x, c, rfl, _⟩ := h1
      have hdd : ((9 - (d + 1) : Nat) : Int) = 8 - d := by omega
      have g0 : ¬ (8 : Int) < 8 - (d : Int) := by omega
      have g1 : IntKind.i64.wrap (8 - (d : Int) + 1) = ((9 - d : Nat) : Int) := (IntWalk.i64_in _ (by omega)).trans (by omega)
      rw [hdd]
      have hW := balloc (balloc (Below.refl w.heap.size w) (.cells #[.bool b, .slice x l.length c, iv] 25)) (.cells #[.int .i64 (8 - d)] 3)
      have hD := Blk.newS w (.cells #[.bool b, .slice x l.length c, iv] 25) 3 #[.int .i64 (8 - d)]
      have hI2 := h2.new hW
      have hs2 : ∀ (i : Nat) v, vs[i]? = some v → ∃ t, ts[i]? = some t ∧ ItO B w t v ∧ smT t := fun i v hv => by
        have hi : i < vs.length := (List.getElem?_eq_some_iff.1 hv).1
        refine ⟨ts[i]'(by omega), by simp [show i < ts.length by omega], hs i _ v (by simp [show i < ts.length by omega]) hv, hq3 i _ (by simp [show i < ts.length by omega])⟩
      have hempty : ((vs.length : Int) == 0) = ts.isEmpty := by
        rw [Bool.eq_iff_iff]; simp [List.isEmpty_iff, ← List.length_eq_zero_iff]; omega
      obtain ⟨y, e, rfl, _⟩ := id h2
      have hrt : rtB (d + 1) (.mk b l ts) = if b then l.isEmpty && ts.all (rtB d) else ts.isEmpty := rfl
      have hC := contains_itemso 47 #[.pointer (some ⟨w.heap.size + 1, 0, none⟩)] (enters_of Tryd.func47 (by kernel_rfl) rfl) B _ vs (fun i => !((ts[i]?).map (rtB d)).getD true) _ (Nat.le_trans hB hW.size) hN hI2 (fun i v hv X hX => by
        obtain ⟨t, ht, hit, hst⟩ := hs2 i v hv
        obtain ⟨b3, x3, m3, c3, y3, n3, d3, rfl⟩ := hit.is
        have hDX := hD.keep hX
        have hX2 := balloc (Below.refl X.heap.size X) (.cells #[.bool b3, .slice x3 m3 c3, .slice y3 n3 d3] 25)
        have hm := Lib.hid (ih (by omega) t _ B _ (Nat.le_trans hB (bstep (bstep hW hX) hX2).size) (hit.new (bstep (bstep hW hX) hX2)) hst)
        have cD := cell_of_row _ _ 0 _ _ _ (hDX.alloc (.cells #[.bool b3, .slice x3 m3 c3, .slice y3 n3 d3] 25))
        have HX2 := Lib.hid hX2
        have hpi : (!((ts[i]?).map (rtB d)).getD true) = !(rtB d t) := by rw [ht]; rfl
        rw [hpi]
        clear hDX hX2 hpi ht hit hst hs2 hI2 hD hW hs h2 hempty hrt
        go_enter Tryd.func47, Tryd.ntmps47
        go_wp2_with fail
        refine hm.out.mono ?_
        rintro e w2 ⟨rfl, h2⟩
        have HE := Lib.hid (bstep HX2.out h2)
        clear h2 hm HX2
        go_wp2_with fail
        go_ret
        exact ⟨rfl, HE.out⟩)
      have hall : (!(List.range vs.length).any (fun i => !((ts[i]?).map (rtB d)).getD true)) = ts.all (rtB d) := by
        rw [Bool.eq_iff_iff]
        simp only [Bool.not_eq_true', List.any_eq_false, List.mem_range, List.all_eq_true]
        constructor
        · intro h t ht
          obtain ⟨i, hi⟩ := List.mem_iff_getElem?.1 ht
          have := h i (by rw [hl]; exact (List.getElem?_eq_some_iff.1 hi).1)
          rw [hi] at this
          simpa using this
        · intro h i hi
          have hi2 : i < ts.length := by omega
          rw [show ts[i]? = some ts[i] by simp [hi2]]
          simpa using h _ (List.getElem_mem hi2)
      have HC := Lib.hid hC
      have HALL := Lib.hid hall
      have HRT := Lib.hid hrt
      have HW := Lib.hid hW
      obtain ⟨q, hq⟩ : ∃ q, (List.range vs.length).any (fun i => !((ts[i]?).map (rtB d)).getD true) = q := ⟨_, rfl⟩
      rw [hq] at HC HALL
      clear hC hall hrt hW hD hI2 hs2 hs h2 hq ih
      obtain ⟨N, hNN⟩ : ∃ N, vs.length = N := ⟨_, rfl⟩
      rw [hNN] at hempty HC HW ⊢
      obtain ⟨ie, hie⟩ : ∃ ie, ts.isEmpty = ie := ⟨_, rfl⟩
      rw [hie] at hempty HRT
      clear hNN hl hie
      cases b with
      | false =>
        have h3 := HRT.out
        rw [if_neg (by simp)] at h3
        rw [h3]
        clear h3 HRT
        go_enter Tryd.func25, Tryd.ntmps25
        go_wp2_with fail
        go_ret
        exact ⟨rfl, HW.out⟩
      | true =>
        have h3 := HRT.out
        rw [if_pos rfl] at h3
        by_cases hl0 : l = []
        · subst hl0
          rw [h3, ← HALL.out, show ([] : List Nat).isEmpty = true from rfl, Bool.true_and]
          clear h3 HRT HALL hempty
          go_enter Tryd.func25, Tryd.ntmps25
          go_wp2_with fail
          refine HC.out.mono ?_
          rintro e w2 ⟨rfl, h2⟩
          have HE := Lib.hid (bstep HW.out h2)
          clear h2 HC HW
          go_wp2_with fail
          go_ret
          exact ⟨rfl, HE.out⟩
        · have hle : l.isEmpty = false := by simpa using hl0
          have hlI : ((l.length : Int) == 0) = false := by
            have : l.length ≠ 0 := fun e => hl0 (List.length_eq_zero_iff.1 e)
            simp; exact hl0
          rw [h3, hle, Bool.false_and]
          obtain ⟨k, hk⟩ : ∃ k, l.length = k := ⟨_, rfl⟩
          rw [hk] at hlI HW HC ⊢
          clear h3 HRT HALL hempty hle hl0 hk
          go_enter Tryd.func25, Tryd.ntmps25
          go_wp2_with fail
          go_ret
          exact ⟨rfl, HW.out⟩
end Go.Proofs.YtjmfnafbjfceoaaDoor

/- item: bytes of arguments as a string, their heads; Word of an item that an argument lays. -/
namespace Go.Proofs.YtjmfnafbjfceoaaDoor
open Go.RowKit Go.Shelf
attribute [local irreducible] lb wdG byA byC heL
theorem Bto.take {B : Nat} {X : World} {l : List Nat} {x : Option Addr} {c : Nat} (h : Bto B X (.slice x l.length c) l) (n : Nat) (hn : n ≤ l.length) : Bto B X (.slice x n c) (l.take n) := by
  obtain ⟨h1, y, cap, h2, h3, h4, h5⟩ := h
  cases h2
  have hln : (l.take n).length = n := by rw [List.length_take]; omega
  refine ⟨fun z hz => h1 z (List.mem_of_mem_take hz), x, c, by rw [hln], by omega, by omega, fun hl => ?_⟩
  obtain ⟨b, o, e, hb, hbx, hc⟩ := h5 (fun e => hl (by rw [e]; simp))
  refine ⟨b, o, e, hb, hbx, fun k u hu => hc k u ?_⟩
  rw [List.getElem?_take] at hu
  split at hu
  · exact hu
  · cases hu
theorem conv_byteso (B : Nat) (v : Value) (l : List Nat) (w : World) (h : Bto B w v l) (hl : l.length ≤ 100000) : (convert 22 9 v).run Tryd.prog w = .ok (.string (toS l)) w := by
  obtain ⟨h1, x, cap, rfl, h3, h4, h5⟩ := h
  rw [run_convert_bytes_string w _ _ 5 x _ _ (by kernel_rfl) (by kernel_rfl) (by kernel_rfl)]
  by_cases h0 : l = []
  · subst h0
    cases x with
    | none => rfl
    | some a =>
      exact run_bytesToString (P := Tryd.prog) w a 0 cap [] (run_loadCells_list (P := Tryd.prog) w a [] (fun j u hj => by simp at hj))
  · obtain ⟨b, o, rfl, _, _, hc⟩ := h5 h0
    have hload : (loadCells ⟨b, o, none⟩ l.length).run Tryd.prog w = .ok ((l.map fun n : Nat => (n : Int)).map (Value.int .u8)).toArray w := by
      have h := run_loadCells_list (P := Tryd.prog) w ⟨b, o, none⟩ (bvs l) (fun j u hj => by
        rw [bvs_get] at hj
        cases hmj : l[j]? with
        | none => rw [hmj] at hj; cases hj
        | some z =>
          rw [hmj] at hj
          cases hj
          rw [Go.WideShapes.add_plain]
          exact hc j z hmj)
      rw [bvs_len] at h
      rw [h, List.map_map]
      rfl
    rw [run_bytesToString w _ _ _ (l.map fun n : Nat => (n : Int)) hload, fold_toS]
    simp [toS]
set_option maxRecDepth 100000 in
set_option maxHeartbeats 2000000 in
theorem equal_o (B C : Nat) (v u : Value) (l m : List Nat) (w : World) (hv : Bto B w v l) (hu : Bto C w u m) (hl : l.length ≤ 100000) (hm : m.length ≤ 100000) :
    Calls Tryd.prog 31 #[v, u] w fun e w' => e = .returned (.bool (decide (l = m))) ∧ w = w' := by
  have h1 := conv_byteso B v l w hv hl
  have h2 := conv_byteso C u m w hu hm
  have he : ((toS l).toList == (toS m).toList) = decide (l = m) := by
    rw [Bool.eq_iff_iff, beq_iff_eq, decide_eq_true_iff, toS_list, toS_list]
    exact ⟨fun h => toS_inj hv.1 hu.1 (by unfold toS; rw [h]), fun h => by rw [h]⟩
  obtain ⟨q, hq⟩ : ∃ q, decide (l = m) = q := ⟨_, rfl⟩
  rw [hq] at he ⊢
  obtain ⟨_, x, c, rfl, _⟩ := hv
  obtain ⟨_, y, d, rfl, _⟩ := hu
  generalize toS l = s1 at h1 he
  generalize toS m = s2 at h2 he
  clear hq
  go_enter Tryd.func31, Tryd.ntmps31
  go_wp2_with fail
  go_ret
  exact ⟨by rw [← he]; rfl, rfl⟩

set_option maxRecDepth 100000 in
set_option maxHeartbeats 2000000 in
/-- Whether bytes begin with a nought. -/
theorem prefix0_o (B C : Nat) (v : Value) (l : List Nat) (y : Option Addr) (d : Nat) (w : World) (hv : Bto B w v l) (hu : Bto C w (.slice y 1 d) [0]) (hl : l.length ≤ 100000) :
    Calls Tryd.prog 41 #[v, .slice y 1 d] w fun e w' => e = .returned (.bool (decide (l.head? = some 0))) ∧ w = w' := by
  obtain ⟨_, x, c, rfl, hc, _⟩ := id hv
  by_cases h0 : l = []
  · subst h0
    go_enter Tryd.func41, Tryd.ntmps41
    go_wp2_with fail
    go_ret
    exact ⟨rfl, rfl⟩
  · have hpos : 0 < l.length := List.length_pos_iff.2 h0
    have ht := hv.take 1 (by omega)
    have hE := equal_o B C _ _ _ _ w ht hu (by simp; omega) (by simp)
    have hd : decide (l.take 1 = [0]) = decide (l.head? = some 0) := by
      cases l with
      | nil => exact (h0 rfl).elim
      | cons a l => simp
    rw [hd] at hE
    have HE := Lib.hid hE
    have gc : (1 : Int) ≤ (c : Int) := by omega
    have g : (1 : Int) ≤ (l.length : Int) := by omega
    have g' : 1 ≤ l.length := by omega
    obtain ⟨q, hq⟩ : ∃ q, decide (l.head? = some 0) = q := ⟨_, rfl⟩
    rw [hq] at HE ⊢
    obtain ⟨n, hn⟩ : ∃ n, l.length = n := ⟨_, rfl⟩
    rw [hn] at g g' ⊢
    clear hE hd ht hv hu hq hn h0 hpos hl hc
    go_enter Tryd.func41, Tryd.ntmps41
    go_wp2_with fail
    refine HE.out.mono ?_
    rintro e w2 ⟨rfl, rfl⟩
    go_wp2_with fail
    go_ret
    exact ⟨rfl, rfl⟩

theorem read_fitso (B : Nat) (v : Value) (l : List Nat) (w : World) (hv : Bto B w v l) (hl : l.length ≤ 32) :
    Calls Tryd.prog 42 #[v] w fun e w' => e = .returned (.tuple #[W (nuL l), .int .i64 0]) ∧ Below w.heap.size w w' := by
  obtain ⟨h1, x, c, rfl, _, h3, h5⟩ := hv
  by_cases h0 : l = []
  · subst h0
    exact read_empty x c w
  · obtain ⟨b, o, rfl, _, hb, hc⟩ := h5 h0
    · refine read_any b o l.length c (fun k => l.getD k 0) w hl hb (fun k hk => ?_)
      have hk2 : l[k]? = some (l.getD k 0) := by rw [List.getD_eq_getElem?_getD]; simp [hk]
      exact ⟨h1 _ (List.mem_of_getElem? hk2), hc k _ hk2⟩
theorem read_overo (B : Nat) (v : Value) (l : List Nat) (w : World) (hv : Bto B w v l) (hl : 32 < l.length) :
    Calls Tryd.prog 42 #[v] w fun e w' => e = .returned (.tuple #[W 0, .int .i64 3]) ∧ Below w.heap.size w w' := by
  obtain ⟨h1, x, c, rfl, _, h3, h5⟩ := hv
  obtain ⟨b, o, rfl, _, hb, hc⟩ := h5 (fun h => by rw [h] at hl; simp at hl)
  · exact read_long b o l.length c w hl (by omega)

set_option maxRecDepth 100000 in
set_option maxHeartbeats 4000000 in
/-- Word of an item that may be. -/
theorem word_mayo (b : Bool) (l : List Nat) (x : Option Addr) (c : Nat) (y : Option Addr) (n d : Nat) (B : Nat) (w : World) (hv : Bto B w (.slice x l.length c) l) (hl : l.length ≤ 100000)
    (hM : ∀ X, Below w.heap.size w X → Calls Tryd.prog 25 #[itW b x l.length c y n d, .int .i64 1] X fun e w' => e = .returned (.bool true) ∧ Below X.heap.size X w') :
    Calls Tryd.prog 20 #[itW b x l.length c y n d] w fun e w' => e = .returned (.tuple #[W (woS b l).1, .int .i64 ((woS b l).2 : Nat)]) ∧ Below w.heap.size w w' := by
  have hI := (Blk.new w 25 #[.bool b, .slice x l.length c, .slice y n d]).alloc (.cells #[.int .u64 0, .int .u64 0, .int .u64 0, .int .u64 0] 47)
  have hR := Blk.newS w (.cells #[.bool b, .slice x l.length c, .slice y n d] 25) 47 #[.int .u64 0, .int .u64 0, .int .u64 0, .int .u64 0]
  have hW := balloc (balloc (Below.refl w.heap.size w) (.cells #[.bool b, .slice x l.length c, .slice y n d] 25)) (.cells #[.int .u64 0, .int .u64 0, .int .u64 0, .int .u64 0] 47)
  have hM1 := Lib.hid (hM _ hW)
  have HB := Lib.hid hv
  obtain ⟨wv, hwv⟩ : ∃ wv, woS b l = wv := ⟨_, rfl⟩
  have HWV := Lib.hid hwv
  rw [hwv]
  have HX := Lib.hid (And.intro hI (And.intro hR hW))
  clear hM hI hR hW hv hwv
  obtain ⟨m, hm⟩ : ∃ m, l.length = m := ⟨_, rfl⟩
  have HM := Lib.hid hm
  rw [hm] at hM1 HX HB hl ⊢
  clear hm
  go_enter Tryd.func20, Tryd.ntmps20
  go_wp2_with fail
  refine hM1.out.mono ?_
  rintro e w1 ⟨rfl, h1⟩
  obtain ⟨hI, hR, hW⟩ := HX.out
  have hI1 := hI.keep h1
  have hR1 := hR.keep h1
  have hW1 := bstep hW h1
  have k0 : w1.cell? ⟨w.heap.size, 0, none⟩ = some (.bool b) := cell_of_row w1 _ 0 _ _ _ hI1
  have k1 : w1.cell? ⟨w.heap.size, 1, none⟩ = some (.slice x m c) := cell_of_row w1 _ 1 _ _ _ hI1
  have H1 := Lib.hid (And.intro hI1 (And.intro hR1 hW1))
  clear hI hR hW hI1 hR1 hW1 h1 hM1 HX
  have hzero : wv = (0, 160) → Ending.returned (.tuple #[.agg #[.int .u64 0, .int .u64 0, .int .u64 0, .int .u64 0], .int .i64 160]) = Ending.returned (.tuple #[W wv.1, .int .i64 (wv.2 : Nat)]) := fun h => by rw [h, show W ((0, 160) : Nat × Nat).1 = _ from W_zero]; rfl
  have HZ := Lib.hid hzero
  clear hzero
  cases b with
  | true =>
    have hr := H1.out.2.1
    have f0 := frozen_of_row w1 _ 0 _ _ hr
    have f1 := frozen_of_row w1 _ 1 _ _ hr
    have f2 := frozen_of_row w1 _ 2 _ _ hr
    have f3 := frozen_of_row w1 _ 3 _ _ hr
    have r0 := cell_of_row w1 _ 0 _ _ _ hr
    have r1 := cell_of_row w1 _ 1 _ _ _ hr
    have r2 := cell_of_row w1 _ 2 _ _ _ hr
    have r3 := cell_of_row w1 _ 3 _ _ _ hr
    have hwv : wv = (0, 160) := by rw [← HWV.out]; rfl
    have HV := Lib.hid (HZ.out hwv)
    clear hr hwv
    go_wp2_with fail
    exact bodyPost_ret (v := .tuple #[.agg #[.int .u64 0, .int .u64 0, .int .u64 0, .int .u64 0], .int .i64 160]) (by simp [results, Tryd.results20, go_sem, r0, r1, r2, r3]) rfl ⟨HV.out, step_world H1.out.2.2 (gset4 w1 (w.heap.size + 1) _ _ _ _) (Nat.le_refl _) (by omega)⟩
  | false =>
    have hz := Blk.new w1 5 #[.int .u8 0]
    have hzb : Bt (w1.heap.size + 1) (w1.alloc (.cells #[.int .u8 0] 5)) (.slice (some ⟨w1.heap.size, 0, none⟩) 1 1) [0] :=
      (Ow.one (base := 0) (x := 0) (by omega) (Nat.zero_le _) hz).bt.mono (by simp)
    have hzW := balloc (Below.refl w1.heap.size w1) (.cells #[.int .u8 0] 5)
    have hB2 := (HB.out.new H1.out.2.2).new hzW
    have hP := prefix0_o B (w1.heap.size + 1) (.slice x m c) l (some ⟨w1.heap.size, 0, none⟩) 1 _ hB2 hzb.bto (by rw [HM.out]; exact hl)
    have hR2 := H1.out.2.1.keep hzW
    have hW2 := bstep H1.out.2.2 hzW
    have hI2 := H1.out.1.keep hzW
    have HP := Lib.hid hP
    have H2 := Lib.hid (And.intro hR2 (And.intro hW2 (And.intro hB2 hI2)))
    have k1 : (w1.alloc (.cells #[.int .u8 0] 5)).cell? ⟨w.heap.size, 1, none⟩ = some (.slice x m c) := cell_of_row _ _ 1 _ _ _ hI2
    clear hz hzb hzW hB2 hP hR2 hW2 H1 hI2
    obtain ⟨q, hq⟩ : ∃ q, decide (l.head? = some 0) = q := ⟨_, rfl⟩
    rw [hq] at HP
    have HQ := Lib.hid hq
    clear hq
    go_wp2_with fail
    refine HP.out.mono ?_
    rintro e w2 ⟨rfl, rfl⟩
    clear HP k0 k1
    have hr := H2.out.1
    have f0 := frozen_of_row _ _ 0 _ _ hr
    have f1 := frozen_of_row _ _ 1 _ _ hr
    have f2 := frozen_of_row _ _ 2 _ _ hr
    have f3 := frozen_of_row _ _ 3 _ _ hr
    have r0 := cell_of_row _ _ 0 _ _ _ hr
    have r1 := cell_of_row _ _ 1 _ _ _ hr
    have r2 := cell_of_row _ _ 2 _ _ _ hr
    have r3 := cell_of_row _ _ 3 _ _ _ hr
    have hI := H2.out.2.2.2
    have i1 := cell_of_row _ _ 1 _ _ _ hI
    obtain ⟨w2, hw2⟩ : ∃ w2, w1.alloc (.cells #[.int .u8 0] 5) = w2 := ⟨_, rfl⟩
    rw [hw2] at f0 f1 f2 f3 r0 r1 r2 r3 i1 H2 ⊢
    clear hw2 hr hI
    cases q with
    | true =>
      have hwv : wv = (0, 160) := by rw [← HWV.out]; unfold woS; rw [HQ.out]; rfl
      have HV := Lib.hid (HZ.out hwv)
      clear hwv i1
      go_wp2_with fail
      exact bodyPost_ret (v := .tuple #[.agg #[.int .u64 0, .int .u64 0, .int .u64 0, .int .u64 0], .int .i64 160]) (by simp [results, Tryd.results20, go_sem, r0, r1, r2, r3]) rfl ⟨HV.out, step_world H2.out.2.1 (gset4 w2 (w.heap.size + 1) _ _ _ _) (Nat.le_refl _) (by omega)⟩
    | false =>
      obtain ⟨hR, hW, hB, hI⟩ := H2.out
      by_cases h32 : m ≤ 32
      · have hwv : wv = (nuL l, 0) := by rw [← HWV.out]; unfold woS; rw [HQ.out, HM.out, show decide (32 < m) = false from decide_eq_false (by omega)]; rfl
        have hC := Lib.hid (read_fitso B (.slice x m c) l w2 hB (by rw [HM.out]; exact h32))
        have HE := Lib.hid (And.intro hR hW)
        have HV := Lib.hid hwv
        clear hR hW hB hI hwv H2
        obtain ⟨a, ha⟩ : ∃ a, nuL l = a := ⟨_, rfl⟩
        rw [ha] at HV hC
        clear ha
        go_wp2_with fail
        refine hC.out.mono ?_
        clear r0 r1 r2 r3 f0 f1 f2 f3 i1 hC
        rintro e w3 ⟨rfl, h3⟩
        have hr := (HE.out.1.keep h3).alloc (.cells (Wc a) 47)
        have hW3 := balloc (bstep HE.out.2 h3) (.cells (Wc a) 47)
        have hA := Blk.new w3 47 (Wc a)
        have f0 := frozen_of_row _ _ 0 _ _ hr
        have f1 := frozen_of_row _ _ 1 _ _ hr
        have f2 := frozen_of_row _ _ 2 _ _ hr
        have f3 := frozen_of_row _ _ 3 _ _ hr
        have r0 := cell_of_row _ _ 0 _ _ _ hr
        have r1 := cell_of_row _ _ 1 _ _ _ hr
        have r2 := cell_of_row _ _ 2 _ _ _ hr
        have r3 := cell_of_row _ _ 3 _ _ _ hr
        have a0 := (cell_of_row _ _ 0 _ _ _ hA).trans (wc_get a 0 (by omega))
        have a1 := (cell_of_row _ _ 1 _ _ _ hA).trans (wc_get a 1 (by omega))
        have a2 := (cell_of_row _ _ 2 _ _ _ hA).trans (wc_get a 2 (by omega))
        have a3 := (cell_of_row _ _ 3 _ _ _ hA).trans (wc_get a 3 (by omega))
        have HW3 := Lib.hid hW3
        clear hr hA hW3 h3 HE
        go_wp2_with fail
        exact bodyPost_ret (v := .tuple #[W a, .int .i64 0]) (by simp [results, Tryd.results20, go_sem, r0, r1, r2, r3]) rfl ⟨by rw [HV.out]; rfl, step_world HW3.out (gset4 _ (w.heap.size + 1) _ _ _ _) (Nat.le_refl _) (by omega)⟩
      · have hwv : wv = (0, 160) := by rw [← HWV.out]; unfold woS; rw [HM.out, show decide (32 < m) = true from decide_eq_true (by omega)]; simp
        have hC := Lib.hid (read_overo B (.slice x m c) l w2 hB (by rw [HM.out]; omega))
        have HE := Lib.hid (And.intro hR hW)
        have HV := Lib.hid (HZ.out hwv)
        clear hR hW hB hI hwv H2
        go_wp2_with fail
        refine hC.out.mono ?_
        clear r0 r1 r2 r3 f0 f1 f2 f3 i1 hC
        rw [W_zero]
        rintro e w3 ⟨rfl, h3⟩
        have hr := (HE.out.1.keep h3).alloc (.cells #[.int .u64 0, .int .u64 0, .int .u64 0, .int .u64 0] 47)
        have hW3 := balloc (bstep HE.out.2 h3) (.cells #[.int .u64 0, .int .u64 0, .int .u64 0, .int .u64 0] 47)
        have f0 := frozen_of_row _ _ 0 _ _ hr
        have f1 := frozen_of_row _ _ 1 _ _ hr
        have f2 := frozen_of_row _ _ 2 _ _ hr
        have f3 := frozen_of_row _ _ 3 _ _ hr
        have r0 := cell_of_row _ _ 0 _ _ _ hr
        have r1 := cell_of_row _ _ 1 _ _ _ hr
        have r2 := cell_of_row _ _ 2 _ _ _ hr
        have r3 := cell_of_row _ _ 3 _ _ _ hr
        have HW3 := Lib.hid hW3
        clear hr hW3 h3 HE
        go_wp2_with fail
        exact bodyPost_ret (v := .tuple #[.agg #[.int .u64 0, .int .u64 0, .int .u64 0, .int .u64 0], .int .i64 160]) (by simp [results, Tryd.results20, go_sem, r0, r1, r2, r3]) rfl ⟨HV.out, step_world HW3.out (gset4 _ (w.heap.size + 1) _ _ _ _) (Nat.le_refl _) (by omega)⟩

theorem word_itemo (t : It) (v : Value) (B : Nat) (w : World) (hB : B ≤ w.heap.size) (hv : ItO B w t v) (hsm : smT t) :
    Calls Tryd.prog 20 #[v] w fun e w' => e = .returned (.tuple #[W (woT t).1, .int .i64 ((woT t).2 : Nat)]) ∧ Below w.heap.size w w' := by
  have hM : ∀ X, Below w.heap.size w X → Calls Tryd.prog 25 #[v, .int .i64 1] X fun e w' => e = .returned (.bool (rtB 8 t)) ∧ Below X.heap.size X w' := fun X hX =>
    mayBe_o 8 (Nat.le_refl _) t v B X (Nat.le_trans hB hX.size) (hv.new hX) hsm
  cases hr : rtB 8 t with
  | false =>
    rw [hr] at hM
    have e : woT t = (0, 2) := by
      cases t with
      | mk b l ts =>
        show (if rtB 8 (.mk b l ts) then woS b l else (0, 2)) = _
        rw [hr]; rfl
    rw [e]
    exact word_not v hv.is w hM
  | true =>
    rw [hr] at hM
    cases hv with
    | mk b l ts v1 iv vs h1 h2 hlv hs _ =>
      have e : woT (.mk b l ts) = woS b l := by
        show (if rtB 8 (.mk b l ts) then woS b l else (0, 2)) = _
        rw [hr]; rfl
      rw [e]
      obtain ⟨_, x, c, rfl, _⟩ := id h1
      obtain ⟨y, d, rfl, _⟩ := h2
      exact word_mayo b l x c y _ d B w h1 (by cases hsm with | mk _ _ _ q1 _ _ => omega) hM
end Go.Proofs.YtjmfnafbjfceoaaDoor

/- item: the reference's Right, of items that arguments lay. -/
namespace Go.Proofs.YtjmfnafbjfceoaaDoor
open Go.RowKit Go.Shelf
attribute [local irreducible] lb wdG byA byC heL
set_option maxRecDepth 100000 in
set_option maxHeartbeats 4000000 in
theorem rright_o (d : Nat) (hd : d ≤ 8) : ∀ (t : It) (v : Value) (B : Nat) (w : World), B ≤ w.heap.size → ItO B w t v → smT t →
    Calls Tryd.prog 29 #[v, .int .i64 (d : Nat)] w fun e w' => e = .returned (.bool (rtB d t)) ∧ Below w.heap.size w w' := by
  induction d with
  | zero =>
    intro t v B w hB hv hsm
    obtain ⟨b, x, m, c, y, n, d, rfl⟩ := hv.is
    have HW := Lib.hid (balloc (Below.refl w.heap.size w) (.cells #[.bool b, .slice x m c, .slice y n d] 25))
    clear hv hsm
    unfold rtB
    go_enter Tryd.func29, Tryd.ntmps29
    go_wp2_with fail
    go_ret
    exact ⟨rfl, HW.out⟩
  | succ d ih =>
    intro t v B w hB hv hsm
    cases hv with
    | mk b l ts v1 iv vs h1 h2 hl hs _ =>
      obtain ⟨hq1, hN, hq3⟩ : l.length ≤ 600 ∧ vs.length ≤ 600 ∧ ∀ (i : Nat) t, ts[i]? = some t → smT t := by cases hsm with | mk _ _ _ q1 q2 q3 => exact ⟨q1, by omega, q3⟩
      obtain ⟨_, x, c, rfl, _⟩ := h1
      obtain ⟨y, e, rfl, _, h2⟩ := h2
      have g0 : ¬ ((d : Int) + 1 < 1) := by omega
      have g1 : IntKind.i64.wrap ((d : Int) + 1 - 1) = (d : Int) := (IntWalk.i64_in _ (by omega)).trans (by omega)
      rw [show ((d + 1 : Nat) : Int) = (d : Int) + 1 by omega]
      have hrt : rtB (d + 1) (.mk b l ts) = if b then l.isEmpty && ts.all (rtB d) else ts.isEmpty := rfl
      have HW := Lib.hid (balloc (Below.refl w.heap.size w) (.cells #[.bool b, .slice x l.length c, .slice y vs.length e] 25))
      have HRT := Lib.hid hrt
      clear hrt
      obtain ⟨N, hNN⟩ : ∃ N, vs.length = N := ⟨_, rfl⟩
      obtain ⟨m, hm⟩ : ∃ m, l.length = m := ⟨_, rfl⟩
      have HI := Lib.hid (And.intro hNN (And.intro hl (And.intro hm (And.intro h2 (And.intro hs (And.intro hq3 ih))))))
      rw [hNN] at hN HW ⊢
      rw [hm] at hq1 HW ⊢
      clear hs ih h2 hl hm hNN hq3 hsm
      cases b with
      | false =>
        by_cases h0 : N = 0
        · have hE : rtB (d + 1) (.mk false l ts) = true := by
            obtain ⟨hNN, hl, _⟩ := HI.out
            have : ts = [] := List.length_eq_zero_iff.1 (by omega)
            rw [HRT.out, this]; rfl
          subst h0
          rw [hE]
          clear hE HRT HI
          go_enter Tryd.func29, Tryd.ntmps29
          go_wp2_with fail
          refine wp_loop_rounds 1 ?_
          rw [rounds_succ]; go_wp2_with fail
          go_ret
          exact ⟨rfl, HW.out⟩
        · have hE : rtB (d + 1) (.mk false l ts) = false := by
            obtain ⟨hNN, hl, _⟩ := HI.out
            rw [HRT.out, if_neg (by simp)]
            cases ts with
            | nil => exact (h0 (by rw [← hNN, hl]; rfl)).elim
            | cons a r => rfl
          have g2 : (0 : Int) < (N : Int) := by omega
          rw [hE]
          clear hE HRT HI
          go_enter Tryd.func29, Tryd.ntmps29
          go_wp2_with fail
          go_ret
          exact ⟨rfl, HW.out⟩
      | true =>
        by_cases h0 : m = 0
        · have hE : rtB (d + 1) (.mk true l ts) = ts.all (rtB d) := by
            obtain ⟨hNN, hl, hm, _⟩ := HI.out
            have : l = [] := List.length_eq_zero_iff.1 (by omega)
            rw [HRT.out, this]; rfl
          rw [hE]
          subst h0
          clear hE HRT
          go_enter Tryd.func29, Tryd.ntmps29
          go_wp2_with fail
          go_loopw [5] (fun i wr => ∃ k : Nat, i = .int .i64 (k : Int) ∧ k ≤ N ∧ (∀ j t, j < k → ts[j]? = some t → rtB d t = true) ∧ Blk wr w.heap.size 25 #[.bool true, .slice x (0 : Nat) c, .slice y N e] ∧ Below w.heap.size w wr) (fun i _ => N - (intOf i).toNat)
          case atStart => exact ⟨0, rfl, by omega, fun j t h => by omega, Blk.new _ _ _, HW.out⟩
          case round =>
            obtain ⟨k, rfl, hk, hno, hB0, hbl⟩ := hrel
            have cX0 := cell_of_row _ _ 0 _ _ _ hB0
            have cX1 := cell_of_row _ _ 1 _ _ _ hB0
            have cX2 := cell_of_row _ _ 2 _ _ _ hB0
            by_cases hlt : k < N
            · obtain ⟨hNN, hl, hm, h2, hs, hq3, ih⟩ := HI.out
              have hkI : (k : Int) < (N : Int) := by omega
              have hk0 : ¬ (k : Int) < 0 := by omega
              have hkv : k < vs.length := by omega
              have hkt : k < ts.length := by omega
              obtain ⟨v, hv⟩ : ∃ v, vs[k]? = some v := ⟨vs[k], by simp [hkv]⟩
              obtain ⟨t, ht⟩ : ∃ t, ts[k]? = some t := ⟨ts[k], by simp [hkt]⟩
              obtain ⟨b1, o, rfl, hb, hbx, hc⟩ := h2 (fun e => by rw [e] at hv; simp at hv)
              obtain ⟨c1, x1, n1, d1, y1, m1, e1, hve, k0, k1, k2⟩ := hc k v hv
              have k0 := (hbl.cell (p := ⟨b1, o + k * 3, none⟩) hbx).trans k0
              have k1 := (hbl.cell (p := ⟨b1, o + k * 3 + 1, none⟩) hbx).trans k1
              have k2 := (hbl.cell (p := ⟨b1, o + k * 3 + 2, none⟩) hbx).trans k2
              have g3 : IntKind.i64.wrap ((k : Int) + 1) = (k : Int) + 1 := IntWalk.i64_in _ (by omega)
              have hcall := ih (by omega) t v B wr (Nat.le_trans hB hbl.size) ((hs k t v ht hv).new hbl) (hq3 k t ht)
              rw [hve] at hcall
              obtain ⟨q, hq⟩ : ∃ q, rtB d t = q := ⟨_, rfl⟩
              rw [hq] at hcall
              have HC := Lib.hid hcall
              have HK := Lib.hid (And.intro hno (And.intro hbl (And.intro ht (And.intro hB0 hq))))
              clear hB0 hc hv hve hno hbl hbx hb hcall hs ih hNN hl hm ht hkv hkt hq hq3
              go_wp2_with fail
              refine HC.out.mono ?_
              rintro e w2 ⟨rfl, h2⟩
              clear HC k0 k1 k2 cX0 cX1 cX2
              have HE := Lib.hid h2
              clear h2
              cases q with
              | true =>
                go_wp2_with fail
                refine ⟨⟨k + 1, by go_num, by omega, fun j t' hj ht' => ?_, HK.out.2.2.2.1.keep HE.out, bstep HK.out.2.1 HE.out⟩, by simp [intOf]; omega⟩
                by_cases hjk : j = k
                · subst hjk
                  have := HK.out.2.2.1
                  rw [this] at ht'
                  cases ht'
                  exact HK.out.2.2.2.2
                · exact HK.out.1 j t' (by omega) ht'
              | false =>
                have hall : ts.all (rtB d) = false := List.all_eq_false.2 ⟨t, List.mem_of_getElem? HK.out.2.2.1, by rw [HK.out.2.2.2.2]; simp⟩
                have HF := Lib.hid (And.intro hall (bstep HK.out.2.1 HE.out))
                clear hall HK HE
                go_wp2_with fail
                go_ret
                exact ⟨by rw [HF.out.1]; rfl, HF.out.2⟩
            · obtain rfl : k = N := by omega
              have hall : ts.all (rtB d) = true := List.all_eq_true.2 fun t ht => by
                obtain ⟨i, hi⟩ := List.mem_iff_getElem?.1 ht
                obtain ⟨hNN, hl, _⟩ := HI.out
                exact hno i t (by have := (List.getElem?_eq_some_iff.1 hi).1; omega) hi
              have HK := Lib.hid (And.intro hall hbl)
              clear hbl hno hall hB0
              go_wp2_with fail
              go_ret
              exact ⟨by rw [HK.out.1]; rfl, HK.out.2⟩
        · have hE : rtB (d + 1) (.mk true l ts) = false := by
            obtain ⟨_, _, hm, _⟩ := HI.out
            rw [HRT.out, if_pos rfl]
            cases l with
            | nil => exact (h0 (by rw [← hm]; rfl)).elim
            | cons a r => rfl
          have g2 : (0 : Int) < (m : Int) := by omega
          rw [hE]
          clear hE HRT HI
          go_enter Tryd.func29, Tryd.ntmps29
          go_wp2_with fail
          go_ret
          exact ⟨rfl, HW.out⟩
end Go.Proofs.YtjmfnafbjfceoaaDoor

/- item: the reference's Word, of items that arguments lay. -/
namespace Go.Proofs.YtjmfnafbjfceoaaDoor
open Go.RowKit Go.Shelf
attribute [local irreducible] lb wdG byA byC heL
set_option maxRecDepth 100000 in
set_option maxHeartbeats 2000000 in
theorem rread_empty (x : Option Addr) (c : Nat) (w : World) :
    Calls Tryd.prog 43 #[.slice x 0 c] w fun e w' => e = .returned (.tuple #[W 0, .int .i64 0]) ∧ Below w.heap.size w w' := by
  have hi : (Tryd.prog.info? 81).map (·.size) = some (byC 0 32).size := by rw [byC_size]; kernel_rfl
  have HI := Lib.hid hi
  have hu : Tryd.prog.underlying 81 = some (.array 32 5) := by kernel_rfl
  have HU := Lib.hid hu
  have h32 : byC 0 0 = byC 0 32 := (rdC_zero (fun _ => 0) 0).symm.trans (rdC_all (fun _ => 0) 0 (by omega) (fun k hk => by omega))
  have H32 := Lib.hid h32
  clear hi hu h32
  go_enter Tryd.func43, Tryd.ntmps43
  go_wp2_with fail
  go_loopw [5] (fun i wr => i = .int .i64 0 ∧ Blk wr (w.heap.size + 1) 81 (byC 0 32) ∧ Blk wr w.heap.size 47 (Wc 0) ∧ Below w.heap.size w wr) (fun _ _ => 0)
  case atStart =>
    refine ⟨rfl, ?_, ?_, balloc (balloc (Below.refl _ _) _) _⟩
    · rw [← H32.out, byC_zero]; exact Blk.newS _ _ _ _
    · have h := (Blk.new w 47 (Wc 0)).alloc (.cells (byC 0 0) 81)
      rw [byC_zero] at h
      simp only [Wc, lb_zero] at h ⊢
      exact h
  case round =>
    obtain ⟨rfl, hs, hr, hB⟩ := hrel
    have HS := Lib.hid hs
    have HR := Lib.hid hr
    clear hs hr
    go_upto_region 8 with (fail)
    refine wp_region_lit (wpList_load_mid rfl 81 (.tmp 4) rfl (w.heap.size + 1) 0 rfl (byC 0 32).toList _ HS.out.rangeAt HU.out rfl HI.out ?_)
    go_wp2_with (go_at_call 65; refine (rfrom_any 0 _).mono ?_; rintro e wk ⟨rfl, hk⟩; have hr2 := HR.out.keep hk; have hB2 := bstep hB hk; have r0 := (cell_of_row wk _ 0 _ _ _ hr2).trans (wc_get 0 0 (by omega)); have r1 := (cell_of_row wk _ 1 _ _ _ hr2).trans (wc_get 0 1 (by omega)); have r2 := (cell_of_row wk _ 2 _ _ _ hr2).trans (wc_get 0 2 (by omega)); have r3 := (cell_of_row wk _ 3 _ _ _ hr2).trans (wc_get 0 3 (by omega)); have f0 := frozen_of_row wk _ 0 _ _ hr2; have f1 := frozen_of_row wk _ 1 _ _ hr2; have f2 := frozen_of_row wk _ 2 _ _ hr2; have f3 := frozen_of_row wk _ 3 _ _ hr2; clear hr2)
    exact bodyPost_ret (v := .tuple #[W 0, .int .i64 0]) (by simp [results, Tryd.results43, go_sem, r0, r1, r2, r3]) rfl ⟨rfl, (((hB2.setCell (p := ⟨w.heap.size, 0, none⟩) (by simp) _).setCell (p := ⟨w.heap.size, 1, none⟩) (by simp) _).setCell (p := ⟨w.heap.size, 2, none⟩) (by simp) _).setCell (p := ⟨w.heap.size, 3, none⟩) (by simp) _⟩
theorem rread_fitso (B : Nat) (v : Value) (l : List Nat) (w : World) (hv : Bto B w v l) (hl : l.length ≤ 32) :
    Calls Tryd.prog 43 #[v] w fun e w' => e = .returned (.tuple #[W (nuL l), .int .i64 0]) ∧ Below w.heap.size w w' := by
  obtain ⟨h1, x, c, rfl, _, h3, h5⟩ := hv
  by_cases h0 : l = []
  · subst h0
    exact rread_empty x c w
  · obtain ⟨b, o, rfl, _, hb, hc⟩ := h5 h0
    refine rread_any b o l.length c (fun k => l.getD k 0) w hl hb (fun k hk => ?_)
    have hk2 : l[k]? = some (l.getD k 0) := by rw [List.getD_eq_getElem?_getD]; simp [hk]
    exact ⟨h1 _ (List.mem_of_getElem? hk2), hc k _ hk2⟩

set_option maxRecDepth 100000 in
set_option maxHeartbeats 4000000 in
/-- The reference's Word of an item that may not be. -/
theorem rword_not (v : Value) (hvv : ∃ b x m c y n d, v = itW b x m c y n d) (w : World)
    (hM : ∀ X, Below w.heap.size w X → Calls Tryd.prog 29 #[v, .int .i64 8] X fun e w' => e = .returned (.bool false) ∧ Below X.heap.size X w') :
    Calls Tryd.prog 21 #[v] w fun e w' => e = .returned (.tuple #[W 0, .int .i64 2]) ∧ Below w.heap.size w w' := by
  obtain ⟨b, x, m, c, y, n, d, rfl⟩ := hvv
  have hR := Blk.newS w (.cells #[.bool b, .slice x m c, .slice y n d] 25) 47 #[.int .u64 0, .int .u64 0, .int .u64 0, .int .u64 0]
  have hW := balloc (balloc (Below.refl w.heap.size w) (.cells #[.bool b, .slice x m c, .slice y n d] 25)) (.cells #[.int .u64 0, .int .u64 0, .int .u64 0, .int .u64 0] 47)
  have hM1 := Lib.hid (hM _ hW)
  have HX := Lib.hid (And.intro hR hW)
  clear hM hR hW
  rw [W_zero]
  go_enter Tryd.func21, Tryd.ntmps21
  go_wp2_with fail
  refine hM1.out.mono ?_
  rintro e w1 ⟨rfl, h1⟩
  have hr := HX.out.1.keep h1
  have H1 := Lib.hid (bstep HX.out.2 h1)
  have f0 := frozen_of_row _ _ 0 _ _ hr
  have f1 := frozen_of_row _ _ 1 _ _ hr
  have f2 := frozen_of_row _ _ 2 _ _ hr
  have f3 := frozen_of_row _ _ 3 _ _ hr
  have r0 := cell_of_row _ _ 0 _ _ _ hr
  have r1 := cell_of_row _ _ 1 _ _ _ hr
  have r2 := cell_of_row _ _ 2 _ _ _ hr
  have r3 := cell_of_row _ _ 3 _ _ _ hr
  clear HX h1 hr hM1
  go_wp2_with fail
  exact bodyPost_ret (v := .tuple #[.agg #[.int .u64 0, .int .u64 0, .int .u64 0, .int .u64 0], .int .i64 2]) (by simp [results, Tryd.results21, go_sem, r0, r1, r2, r3]) rfl ⟨rfl, step_world H1.out (gset4 _ (w.heap.size + 1) _ _ _ _) (Nat.le_refl _) (by omega)⟩

set_option maxRecDepth 100000 in
set_option maxHeartbeats 4000000 in
/-- The reference's Word of an item that may be. -/
theorem rword_may (b : Bool) (l : List Nat) (x : Option Addr) (c : Nat) (y : Option Addr) (n d : Nat) (B : Nat) (w : World) (hv : Bto B w (.slice x l.length c) l) (hl : l.length ≤ 100000)
    (hM : ∀ X, Below w.heap.size w X → Calls Tryd.prog 29 #[itW b x l.length c y n d, .int .i64 8] X fun e w' => e = .returned (.bool true) ∧ Below X.heap.size X w') :
    Calls Tryd.prog 21 #[itW b x l.length c y n d] w fun e w' => e = .returned (.tuple #[W (woS b l).1, .int .i64 ((woS b l).2 : Nat)]) ∧ Below w.heap.size w w' := by
  have hI := (Blk.new w 25 #[.bool b, .slice x l.length c, .slice y n d]).alloc (.cells #[.int .u64 0, .int .u64 0, .int .u64 0, .int .u64 0] 47)
  have hR := Blk.newS w (.cells #[.bool b, .slice x l.length c, .slice y n d] 25) 47 #[.int .u64 0, .int .u64 0, .int .u64 0, .int .u64 0]
  have hW := balloc (balloc (Below.refl w.heap.size w) (.cells #[.bool b, .slice x l.length c, .slice y n d] 25)) (.cells #[.int .u64 0, .int .u64 0, .int .u64 0, .int .u64 0] 47)
  have hM1 := Lib.hid (hM _ hW)
  have HB := Lib.hid hv
  obtain ⟨wv, hwv⟩ : ∃ wv, woS b l = wv := ⟨_, rfl⟩
  have HWV := Lib.hid hwv
  rw [hwv]
  have HX := Lib.hid (And.intro hI (And.intro hR hW))
  clear hM hI hR hW hv hwv
  obtain ⟨m, hm⟩ : ∃ m, l.length = m := ⟨_, rfl⟩
  have HM := Lib.hid hm
  rw [hm] at hM1 HX HB hl ⊢
  clear hm
  go_enter Tryd.func21, Tryd.ntmps21
  go_wp2_with fail
  refine hM1.out.mono ?_
  rintro e w1 ⟨rfl, h1⟩
  obtain ⟨hI, hR, hW⟩ := HX.out
  have hI1 := hI.keep h1
  have hR1 := hR.keep h1
  have hW1 := bstep hW h1
  have k0 : w1.cell? ⟨w.heap.size, 0, none⟩ = some (.bool b) := cell_of_row w1 _ 0 _ _ _ hI1
  have k1 : w1.cell? ⟨w.heap.size, 1, none⟩ = some (.slice x m c) := cell_of_row w1 _ 1 _ _ _ hI1
  have f0 := frozen_of_row w1 _ 0 _ _ hR1
  have f1 := frozen_of_row w1 _ 1 _ _ hR1
  have f2 := frozen_of_row w1 _ 2 _ _ hR1
  have f3 := frozen_of_row w1 _ 3 _ _ hR1
  have r0 := cell_of_row w1 _ 0 _ _ _ hR1
  have r1 := cell_of_row w1 _ 1 _ _ _ hR1
  have r2 := cell_of_row w1 _ 2 _ _ _ hR1
  have r3 := cell_of_row w1 _ 3 _ _ _ hR1
  have hB1 := HB.out.new hW1
  have H1 := Lib.hid (And.intro hI1 (And.intro hR1 (And.intro hW1 hB1)))
  clear hI hR hW hI1 hR1 hW1 h1 hM1 HX hB1
  have hzero : wv = (0, 160) → Ending.returned (.tuple #[.agg #[.int .u64 0, .int .u64 0, .int .u64 0, .int .u64 0], .int .i64 160]) = Ending.returned (.tuple #[W wv.1, .int .i64 (wv.2 : Nat)]) := fun h => by rw [h, show W ((0, 160) : Nat × Nat).1 = _ from W_zero]; rfl
  have HZ := Lib.hid hzero
  clear hzero
  have hread : b = false → l.head? ≠ some 0 → m ≤ 32 → wv = (nuL l, 0) := fun hb hh hm => by
    rw [← HWV.out]; unfold woS; rw [hb, HM.out, show decide (l.head? = some 0) = false from decide_eq_false hh, show decide (32 < m) = false from decide_eq_false (by omega)]; rfl
  cases b with
  | true =>
    have hwv : wv = (0, 160) := by rw [← HWV.out]; rfl
    have HV := Lib.hid (HZ.out hwv)
    clear hwv hread
    go_wp2_with fail
    exact bodyPost_ret (v := .tuple #[.agg #[.int .u64 0, .int .u64 0, .int .u64 0, .int .u64 0], .int .i64 160]) (by simp [results, Tryd.results21, go_sem, r0, r1, r2, r3]) rfl ⟨HV.out, step_world H1.out.2.2.1 (gset4 w1 (w.heap.size + 1) _ _ _ _) (Nat.le_refl _) (by omega)⟩
  | false =>
    by_cases h32 : 32 < m
    · have hwv : wv = (0, 160) := by rw [← HWV.out]; unfold woS; rw [HM.out, show decide (32 < m) = true from decide_eq_true h32]; simp
      have g32 : (32 : Int) < (m : Int) := by omega
      have HV := Lib.hid (HZ.out hwv)
      clear hwv hread h32
      go_wp2_with fail
      exact bodyPost_ret (v := .tuple #[.agg #[.int .u64 0, .int .u64 0, .int .u64 0, .int .u64 0], .int .i64 160]) (by simp [results, Tryd.results21, go_sem, r0, r1, r2, r3]) rfl ⟨HV.out, step_world H1.out.2.2.1 (gset4 w1 (w.heap.size + 1) _ _ _ _) (Nat.le_refl _) (by omega)⟩
    · have g32 : ¬ (32 : Int) < (m : Int) := by omega
      have hC := rread_fitso B (.slice x m c) l w1 H1.out.2.2.2 (by rw [HM.out]; omega)
      have HC := Lib.hid hC
      clear hC
      by_cases h0 : m = 0
      · have hwv := hread rfl (by have : l = [] := List.length_eq_zero_iff.1 (by rw [HM.out, h0]); rw [this]; simp) (by omega)
        subst h0
        have HV := Lib.hid hwv
        obtain ⟨a, ha⟩ : ∃ a, nuL l = a := ⟨_, rfl⟩
        rw [ha] at HV HC
        have HE := Lib.hid (And.intro H1.out.2.1 H1.out.2.2.1)
        clear hwv hread h32 ha H1
        go_wp2_with fail
        refine HC.out.mono ?_
        clear r0 r1 r2 r3 f0 f1 f2 f3 k0 k1 HC
        rintro e w3 ⟨rfl, h3⟩
        have hr := (HE.out.1.keep h3).alloc (.cells (Wc a) 47)
        have hW3 := balloc (bstep HE.out.2 h3) (.cells (Wc a) 47)
        have hA := Blk.new w3 47 (Wc a)
        have f0 := frozen_of_row _ _ 0 _ _ hr
        have f1 := frozen_of_row _ _ 1 _ _ hr
        have f2 := frozen_of_row _ _ 2 _ _ hr
        have f3 := frozen_of_row _ _ 3 _ _ hr
        have r0 := cell_of_row _ _ 0 _ _ _ hr
        have r1 := cell_of_row _ _ 1 _ _ _ hr
        have r2 := cell_of_row _ _ 2 _ _ _ hr
        have r3 := cell_of_row _ _ 3 _ _ _ hr
        have a0 := (cell_of_row _ _ 0 _ _ _ hA).trans (wc_get a 0 (by omega))
        have a1 := (cell_of_row _ _ 1 _ _ _ hA).trans (wc_get a 1 (by omega))
        have a2 := (cell_of_row _ _ 2 _ _ _ hA).trans (wc_get a 2 (by omega))
        have a3 := (cell_of_row _ _ 3 _ _ _ hA).trans (wc_get a 3 (by omega))
        have HW3 := Lib.hid hW3
        clear hr hA hW3 h3 HE
        go_wp2_with fail
        exact bodyPost_ret (v := .tuple #[W a, .int .i64 0]) (by simp [results, Tryd.results21, go_sem, r0, r1, r2, r3]) rfl ⟨by rw [HV.out]; rfl, step_world HW3.out (gset4 _ (w.heap.size + 1) _ _ _ _) (Nat.le_refl _) (by omega)⟩
      · obtain ⟨z, rs, hzl⟩ : ∃ z rs, l = z :: rs := by
          cases l with
          | nil => exact (h0 (by rw [← HM.out]; rfl)).elim
          | cons z rs => exact ⟨z, rs, rfl⟩
        have g0 : (0 : Int) < (m : Int) := by omega
        have g00 : 0 < m := by omega
        obtain ⟨hzb, hcz⟩ : z < 256 ∧ ∃ b o, x = some ⟨b, o, none⟩ ∧ w1.cell? ⟨b, o, none⟩ = some (.int .u8 (z : Nat)) := by
          obtain ⟨q1, x', c', he, _, _, q5⟩ := H1.out.2.2.2
          obtain ⟨b, o, e, _, _, hc⟩ := q5 (by rw [hzl]; simp)
          cases he
          exact ⟨q1 z (by rw [hzl]; simp), b, o, e, hc 0 z (by rw [hzl]; rfl)⟩
        obtain ⟨bb, o, rfl, hcz⟩ := hcz
        by_cases hz0 : z = 0
        · have hwv : wv = (0, 160) := by rw [← HWV.out]; unfold woS; rw [hzl, hz0]; rfl
          have HV := Lib.hid (HZ.out hwv)
          subst hz0
          clear hwv hread hzl
          go_wp2_with fail
          exact bodyPost_ret (v := .tuple #[.agg #[.int .u64 0, .int .u64 0, .int .u64 0, .int .u64 0], .int .i64 160]) (by simp [results, Tryd.results21, go_sem, r0, r1, r2, r3]) rfl ⟨HV.out, step_world H1.out.2.2.1 (gset4 w1 (w.heap.size + 1) _ _ _ _) (Nat.le_refl _) (by omega)⟩
        · have hwv := hread rfl (by rw [hzl]; simp; exact hz0) (by omega)
          have gz : ¬ (z : Int) = 0 := by omega
          have gz2 : ((z : Int) == 0) = false := by simpa using gz
          have HV := Lib.hid hwv
          obtain ⟨a, ha⟩ : ∃ a, nuL l = a := ⟨_, rfl⟩
          rw [ha] at HV HC
          have HE := Lib.hid (And.intro H1.out.2.1 H1.out.2.2.1)
          clear hwv hread h32 ha hzl H1
          go_wp2_with fail
          refine HC.out.mono ?_
          clear r0 r1 r2 r3 f0 f1 f2 f3 k0 k1 hcz HC
          rintro e w3 ⟨rfl, h3⟩
          have hr := (HE.out.1.keep h3).alloc (.cells (Wc a) 47)
          have hW3 := balloc (bstep HE.out.2 h3) (.cells (Wc a) 47)
          have hA := Blk.new w3 47 (Wc a)
          have f0 := frozen_of_row _ _ 0 _ _ hr
          have f1 := frozen_of_row _ _ 1 _ _ hr
          have f2 := frozen_of_row _ _ 2 _ _ hr
          have f3 := frozen_of_row _ _ 3 _ _ hr
          have r0 := cell_of_row _ _ 0 _ _ _ hr
          have r1 := cell_of_row _ _ 1 _ _ _ hr
          have r2 := cell_of_row _ _ 2 _ _ _ hr
          have r3 := cell_of_row _ _ 3 _ _ _ hr
          have a0 := (cell_of_row _ _ 0 _ _ _ hA).trans (wc_get a 0 (by omega))
          have a1 := (cell_of_row _ _ 1 _ _ _ hA).trans (wc_get a 1 (by omega))
          have a2 := (cell_of_row _ _ 2 _ _ _ hA).trans (wc_get a 2 (by omega))
          have a3 := (cell_of_row _ _ 3 _ _ _ hA).trans (wc_get a 3 (by omega))
          have HW3 := Lib.hid hW3
          clear hr hA hW3 h3 HE
          go_wp2_with fail
          exact bodyPost_ret (v := .tuple #[W a, .int .i64 0]) (by simp [results, Tryd.results21, go_sem, r0, r1, r2, r3]) rfl ⟨by rw [HV.out]; rfl, step_world HW3.out (gset4 _ (w.heap.size + 1) _ _ _ _) (Nat.le_refl _) (by omega)⟩
theorem rword_itemo (t : It) (v : Value) (B : Nat) (w : World) (hB : B ≤ w.heap.size) (hv : ItO B w t v) (hsm : smT t) :
    Calls Tryd.prog 21 #[v] w fun e w' => e = .returned (.tuple #[W (woT t).1, .int .i64 ((woT t).2 : Nat)]) ∧ Below w.heap.size w w' := by
  have hM : ∀ X, Below w.heap.size w X → Calls Tryd.prog 29 #[v, .int .i64 8] X fun e w' => e = .returned (.bool (rtB 8 t)) ∧ Below X.heap.size X w' := fun X hX =>
    rright_o 8 (Nat.le_refl _) t v B X (Nat.le_trans hB hX.size) (hv.new hX) hsm
  cases hr : rtB 8 t with
  | false =>
    rw [hr] at hM
    have e : woT t = (0, 2) := by
      cases t with
      | mk b l ts =>
        show (if rtB 8 (.mk b l ts) then woS b l else (0, 2)) = _
        rw [hr]; rfl
    rw [e]
    exact rword_not v hv.is w hM
  | true =>
    rw [hr] at hM
    cases hv with
    | mk b l ts v1 iv vs h1 h2 hlv hs _ =>
      have e : woT (.mk b l ts) = woS b l := by
        show (if rtB 8 (.mk b l ts) then woS b l else (0, 2)) = _
        rw [hr]; rfl
      rw [e]
      obtain ⟨_, x, c, rfl, _⟩ := id h1
      obtain ⟨y, d, rfl, _⟩ := h2
      exact rword_may b l x c y _ d B w h1 (by cases hsm with | mk _ _ _ q1 _ _ => omega) hM
end Go.Proofs.YtjmfnafbjfceoaaDoor

/- item: a number's item in lists of bytes, its word again. -/
namespace Go.Proofs.YtjmfnafbjfceoaaDoor
open Go.RowKit Go.Shelf

theorem wdG_top (b : Nat → Nat) : ∀ m, (∀ j, wdG b m ≤ j → j < m → b j = 0) ∧ (0 < wdG b m → b (wdG b m - 1) ≠ 0)
  | 0 => ⟨fun j _ h => by omega, fun h => by unfold wdG at h; omega⟩
  | m + 1 => by
    by_cases h : b m = 0
    · have e : wdG b (m + 1) = wdG b m := by show (if b m = 0 then wdG b m else m + 1) = _; rw [if_pos h]
      rw [e]
      refine ⟨fun j h1 h2 => ?_, (wdG_top b m).2⟩
      by_cases hj : j = m
      · rw [hj]; exact h
      · exact (wdG_top b m).1 j h1 (by omega)
    · have e : wdG b (m + 1) = m + 1 := by show (if b m = 0 then wdG b m else m + 1) = _; rw [if_neg h]
      rw [e]
      exact ⟨fun j h1 h2 => by omega, fun _ => h⟩
theorem numB_byq (a q : Nat) : ∀ n, n ≤ q → numB (fun k => byA a (q - 1 - k)) n = a / 256 ^ (q - n) % 256 ^ n
  | 0, _ => by simp [numB, Nat.mod_one]
  | n + 1, h => by
    show numB (fun k => byA a (q - 1 - k)) n * 256 + byA a (q - 1 - n) = _
    rw [numB_byq a q n (by omega)]
    unfold byA
    have e : q - n = (q - 1 - n) + 1 := by omega
    rw [show q - (n + 1) = q - 1 - n by omega, e, Nat.pow_succ, ← Nat.div_div_eq_div_mul]
    generalize a / 256 ^ (q - 1 - n) = m
    rw [Nat.pow_succ', Nat.mod_mul]
    omega
theorem numB_eq (f g : Nat → Nat) : ∀ n, (∀ k, k < n → f k = g k) → numB f n = numB g n
  | 0, _ => rfl
  | n + 1, h => by
    show numB f n * 256 + f n = numB g n * 256 + g n
    rw [numB_eq f g n (fun k hk => h k (by omega)), h n (by omega)]
theorem below_top (a m : Nat) : ∀ d, a < 256 ^ (m + d) → (∀ j, m ≤ j → j < m + d → byA a j = 0) → a < 256 ^ m
  | 0, h, _ => h
  | d + 1, h, hz => by
    refine below_top a m d ?_ (fun j h1 h2 => hz j h1 (by omega))
    have h0 : a / 256 ^ (m + d) % 256 = 0 := hz (m + d) (by omega) (by omega)
    have hp : 0 < 256 ^ (m + d) := Nat.pow_pos (by omega)
    have hlt : a / 256 ^ (m + d) < 256 := by
      rw [Nat.div_lt_iff_lt_mul hp, ← Nat.pow_succ']
      exact h
    have : a / 256 ^ (m + d) = 0 := by rwa [Nat.mod_eq_of_lt hlt] at h0
    exact (Nat.div_eq_zero_iff_lt hp).1 this
theorem wdG_le32 (b : Nat → Nat) : wdG b 32 ≤ 32 := wdG_le b 32
/-- A number's bytes. -/
def nbL (a : Nat) : List Nat := (List.range (wdN a)).map fun p => byA a (wdN a - 1 - p)
theorem nbL_len (a : Nat) : (nbL a).length = wdN a := by unfold nbL; simp
theorem wdN_le (a : Nat) : wdN a ≤ 32 := wdG_le _ _
theorem nbL_get (a k : Nat) (hk : k < wdN a) : (nbL a)[k]? = some (byA a (wdN a - 1 - k)) := by
  unfold nbL; rw [List.getElem?_map, List.getElem?_range hk]; rfl
theorem nbL_bytes (a : Nat) : ∀ x ∈ nbL a, x < 256 := fun x hx => by
  unfold nbL at hx
  simp only [List.mem_map] at hx
  obtain ⟨p, _, rfl⟩ := hx
  exact byA_lt _ _
theorem nbL_num (a : Nat) (ha : a < MM) : nuL (nbL a) = a := by
  unfold nuL
  rw [nbL_len, numB_eq _ (fun k => byA a (wdN a - 1 - k)) _ (fun k hk => by show (nbL a).getD k 0 = _; rw [List.getD_eq_getElem?_getD, nbL_get a k hk]; rfl), numB_byq a (wdN a) (wdN a) (Nat.le_refl _), Nat.sub_self, Nat.pow_zero, Nat.div_one]
  refine Nat.mod_eq_of_lt (below_top a (wdN a) (32 - wdN a) ?_ fun j h1 h2 => (wdG_top (byA a) 32).1 j h1 (by have := wdN_le a; omega))
  rw [show wdN a + (32 - wdN a) = 32 by have := wdN_le a; omega, ← MM_256]
  exact ha
theorem nbL_head (a : Nat) : (nbL a).head? ≠ some 0 := by
  rw [List.head?_eq_getElem?]
  by_cases h : 0 < wdN a
  · rw [nbL_get a 0 h]
    intro e
    exact (wdG_top (byA a) 32).2 h (show byA a (wdN a - 1) = 0 by simpa using e)
  · rw [List.getElem?_eq_none (by rw [nbL_len]; omega)]; simp
theorem nbL_word (a : Nat) (ha : a < MM) : woS false (nbL a) = (a, 0) := by
  unfold woS
  rw [show decide ((nbL a).head? = some 0) = false from decide_eq_false (nbL_head a), show decide (32 < (nbL a).length) = false from decide_eq_false (by rw [nbL_len]; have := wdN_le a; omega), nbL_num a ha]
  rfl
attribute [local irreducible] lb wdG byA byC heL
/-- A number's item. -/
theorem number_bt (a : Nat) (w : World) :
    Calls Tryd.prog 19 #[W a] w fun e w' => ∃ v, e = .returned (itB v) ∧ Bt w'.heap.size w' v (nbL a) ∧ Below w.heap.size w w' := by
  refine (number_any a w).mono ?_
  rintro e w' ⟨B, rfl, hB, _, h⟩
  refine ⟨_, rfl, ?_, h⟩
  refine ⟨nbL_bytes a, ?_⟩
  rw [nbL_len]
  unfold nbV
  by_cases h0 : wdN a = 0
  · rw [if_pos h0, h0]
    exact ⟨none, 0, rfl, Nat.le_refl _, by omega, .inl ⟨rfl, List.length_eq_zero_iff.1 (by rw [nbL_len, h0]), rfl⟩⟩
  · rw [if_neg h0]
    have hm := wdN_le a
    refine ⟨_, _, rfl, Nat.le_refl _, by omega, .inr ⟨B, _, rfl, fun _ => ⟨hB.lt, hB.lt⟩, fun j u hu => ?_⟩⟩
    have hj : j < wdN a := by have := (List.getElem?_eq_some_iff.1 hu).1; rwa [nbL_len] at this
    rw [nbL_get a j hj] at hu
    cases hu
    rw [cell_of_row w' B _ _ _ _ hB, byC_at a _ (by omega), show 31 - (32 - wdN a + j) = wdN a - 1 - j by omega]
/-- A number's item, as the reference makes it. -/
theorem rnumber_bt (a : Nat) (w : World) :
    Calls Tryd.prog 22 #[W a] w fun e w' => ∃ v, e = .returned (itB v) ∧ Bto w'.heap.size w' v (nbL a) ∧ Below w.heap.size w w' := by
  refine (rnumber_any a w).mono ?_
  rintro e w' ⟨v, rfl, ⟨x, cap, h1, h2, h3, h4⟩, h⟩
  refine ⟨_, rfl, ?_, h⟩
  replace h1 : v = .slice x (wdN a) cap := h1
  replace h2 : wdN a ≤ cap := h2
  have hm := wdN_le a
  refine ⟨nbL_bytes a, x, cap, by rw [nbL_len, h1], by rw [nbL_len]; exact h2, by rw [nbL_len]; omega, fun hl => ?_⟩
  have h0 : 0 < wdN a := by
    rw [← nbL_len a]; exact List.length_pos_iff.2 hl
  obtain ⟨b, o, e, hb, hc⟩ := h4 h0
  refine ⟨b, o, e, hb, hb, fun k u hu => ?_⟩
  have hk : k < wdN a := by have := (List.getElem?_eq_some_iff.1 hu).1; rwa [nbL_len] at this
  rw [nbL_get a k hk] at hu
  cases hu
  exact (hc k hk).2

set_option maxRecDepth 100000 in
set_option maxHeartbeats 2000000 in
theorem rsame_byteso (B C : Nat) (v u : Value) (l m : List Nat) (w : World) (hv : Bto B w v l) (hu : Bto C w u m) (hl : l.length ≤ 100000) (hm : m.length ≤ 100000) :
    Calls Tryd.prog 14 #[itB v, itB u] w fun e w' => e = .returned (.bool (decide (l = m))) ∧ Below w.heap.size w w' := by
  obtain ⟨_, x, c, rfl, _⟩ := id hv
  obtain ⟨_, y, d, rfl, _⟩ := id hu
  have hW := balloc (balloc (Below.refl w.heap.size w) (.cells #[.bool false, .slice x l.length c, .slice none 0 0] 25)) (.cells #[.bool false, .slice y m.length d, .slice none 0 0] 25)
  have h1 := conv_byteso B _ l _ (hv.new hW) hl
  have h2 := conv_byteso C _ m _ (hu.new hW) hm
  have he : ((toS l).toList == (toS m).toList) = decide (l = m) := by
    rw [Bool.eq_iff_iff, beq_iff_eq, decide_eq_true_iff, toS_list, toS_list]
    exact ⟨fun h => toS_inj hv.1 hu.1 (by unfold toS; rw [h]), fun h => by rw [h]⟩
  have HW := Lib.hid hW
  clear hv hu hW
  obtain ⟨q, hq⟩ : ∃ q, decide (l = m) = q := ⟨_, rfl⟩
  rw [hq] at he ⊢
  generalize toS l = s1 at h1 he
  generalize toS m = s2 at h2 he
  obtain ⟨ll, hll⟩ : ∃ ll, l.length = ll := ⟨_, rfl⟩
  obtain ⟨ml, hml⟩ : ∃ ml, m.length = ml := ⟨_, rfl⟩
  rw [hll, hml] at h1 h2 HW ⊢
  clear hq hll hml hl hm
  cases q with
  | true =>
    have he2 : s1.toList = s2.toList := by simpa using he
    clear he
    go_enter Tryd.func14, Tryd.ntmps14
    go_wp2_with fail
    refine wp_loop_rounds 1 ?_
    rw [rounds_succ]; go_wp2_with fail
    go_ret
    exact ⟨rfl, HW.out⟩
  | false =>
    have he2 : ¬ s1.toList = s2.toList := by simpa using he
    clear he
    go_enter Tryd.func14, Tryd.ntmps14
    go_wp2_with fail
    go_ret
    exact ⟨rfl, HW.out⟩


/-- Of a number's item the number is told. -/
theorem word_number (a : Nat) (ha : a < MM) (v : Value) (B : Nat) (w : World) (hB : B ≤ w.heap.size) (hv : Bt B w v (nbL a)) :
    Calls Tryd.prog 20 #[itB v] w fun e w' => e = .returned (.tuple #[W a, .int .i64 0]) ∧ Below w.heap.size w w' := by
  have h := word_itemo (.mk false (nbL a) []) (itB v) B w hB (ItO.mk false (nbL a) [] v (.slice none 0 0) [] hv.bto ⟨none, 0, rfl, by simp, fun h => (h rfl).elim⟩ rfl (fun i t v h => by simp at h) hv.n0) (smT.mk _ _ _ (by rw [nbL_len]; have := wdN_le a; omega) (by simp) (fun i t h => by simp at h))
  have e : woT (.mk false (nbL a) []) = (a, 0) := nbL_word a ha
  rw [e] at h
  exact h
end Go.Proofs.YtjmfnafbjfceoaaDoor

