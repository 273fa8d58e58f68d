/- policy: addresses: their order. -/
import Derived.Test.YtcplhalgjjhmdaaRa
namespace Go.Proofs.Ytcplhalgjjhmdaa
open Go.RowKit Go.Shelf

/-- An address: twenty bytes, the highest first. -/
def Ad (a : List Nat) : Prop := a.length = 20 ∧ ∀ x ∈ a, x < 256
/-- An address's cells. -/
def adC (a : List Nat) : Array Value := (bvs a).toArray
theorem adC_get (a : List Nat) (k : Nat) : (adC a)[k]? = (a[k]?).map fun x => Value.int .u8 (x : Nat) := by unfold adC; rw [List.getElem?_toArray, bvs_get]
theorem Ad.cell {a : List Nat} (h : Ad a) {X : World} {b : Nat} {t : TypeId} (hb : Blk X b t (adC a)) (k : Nat) (hk : k < 20) : ∃ x, a[k]? = some x ∧ x < 256 ∧ X.cell? ⟨b, k, none⟩ = some (.int .u8 (x : Nat)) := by
  have hl : k < a.length := by rw [h.1]; exact hk
  refine ⟨a[k], List.getElem?_eq_getElem hl, h.2 _ (List.getElem_mem hl), ?_⟩
  rw [cell_of_row _ _ k _ _ _ hb, adC_get, List.getElem?_eq_getElem hl]
  rfl
theorem Ad.bto {a : List Nat} (h : Ad a) {X : World} {b : Nat} {t : TypeId} (hb : Blk X b t (adC a)) : Bto X.heap.size X (.slice (some ⟨b, 0, none⟩) 20 20) a := by
  refine ⟨h.2, some ⟨b, 0, none⟩, 20, by rw [h.1], by rw [h.1]; exact Nat.le_refl _, by rw [h.1]; omega, fun _ => ⟨b, 0, rfl, hb.lt, hb.lt, fun k u hu => ?_⟩⟩
  rw [Nat.zero_add, cell_of_row _ _ k _ _ _ hb, adC_get, hu]
  rfl
attribute [irreducible] adC
theorem Ad.lt {a : List Nat} (h : Ad a) : bv a < 256 ^ 20 := by rw [← h.1]; exact bv_lt a h.2
theorem Ad.inj {a b : List Nat} (ha : Ad a) (hb : Ad b) (h : bv a = bv b) : a = b := bv_inj a b (by rw [ha.1, hb.1]) ha.2 hb.2 h
/-- The first byte at which two addresses differ decides. -/
theorem bv_first {a b : List Nat} (hl : a.length = b.length) (ha : ∀ x ∈ a, x < 256) (_hb : ∀ x ∈ b, x < 256) {k x y : Nat} (hp : a.take k = b.take k) (hx : a[k]? = some x) (hy : b[k]? = some y) (h : x < y) : bv a < bv b := by
  have ka := (List.getElem?_eq_some_iff.1 hx).1
  have kb := (List.getElem?_eq_some_iff.1 hy).1
  have ea : a = a.take k ++ x :: a.drop (k + 1) := by
    conv => lhs; rw [← List.take_append_drop k a]
    rw [List.drop_eq_getElem_cons ka, (List.getElem?_eq_some_iff.1 hx).2]
  have eb : b = b.take k ++ y :: b.drop (k + 1) := by
    conv => lhs; rw [← List.take_append_drop k b]
    rw [List.drop_eq_getElem_cons kb, (List.getElem?_eq_some_iff.1 hy).2]
  have la := bv_lt (a.drop (k + 1)) fun z hz => ha z (List.mem_of_mem_drop hz)
  have hd : (a.drop (k + 1)).length = (b.drop (k + 1)).length := by rw [List.length_drop, List.length_drop, hl]
  rw [ea, eb, bv_app, bv_app, bv_cons, bv_cons, hp, List.length_cons, List.length_cons, hd]
  rw [hd] at la
  generalize 256 ^ (b.drop (k + 1)).length = P at *
  have := Nat.mul_le_mul_right P (show x + 1 ≤ y by omega)
  rw [Nat.succ_mul] at this
  omega

/-- The two boxes of two addresses. -/
theorem two_boxes (a b : List Nat) (t : TypeId) (w : World) : ∃ X, (w.alloc (.cells (adC a) t)).alloc (.cells (adC b) t) = X ∧ Blk X w.heap.size t (adC a) ∧ Blk X (w.heap.size + 1) t (adC b) ∧ Below w.heap.size w X :=
  ⟨_, rfl, (Blk.new w _ _).alloc _, Blk.newS w _ _ _, balloc (balloc (Below.refl _ _) _) _⟩
set_option maxRecDepth 100000 in
set_option maxHeartbeats 4000000 in
theorem rorder_any (a b : List Nat) (ha : Ad a) (hb : Ad b) (w : World) :
    Calls Try.prog 53 #[.agg (adC a), .agg (adC b)] w fun e w' => e = .returned (.int .i64 (ordN (bv a) (bv b))) ∧ Below w.heap.size w w' := by
  obtain ⟨X, hX, b1, b2, hW⟩ := two_boxes a b 28 w
  have HX := Lib.hid hX
  have H0 := Lib.hid (And.intro ha (And.intro hb (And.intro b1 (And.intro b2 hW))))
  clear hX b1 b2 hW ha hb
  go_enter Try.func53, Try.ntmps53
  go_wp2_with fail
  rw [HX.out]
  go_loopw [5] (fun t wr => ∃ (i : Nat), t = .int .i64 i ∧ i ≤ 20 ∧ a.take i = b.take i ∧ wr.heap = X.heap ∧ Below w.heap.size w wr) (fun t _ => 20 - (intOf t).toNat)
  case atStart => exact ⟨0, rfl, by omega, rfl, rfl, H0.out.2.2.2.2⟩
  case round =>
    obtain ⟨i, rfl, hi, htk, hwh, hW⟩ := hrel
    obtain ⟨ha, hb, b1, b2, _⟩ := H0.out
    have b1 : Blk wr w.heap.size 28 (adC a) := (congrArg (fun h : Array Obj => h[w.heap.size]?) hwh).trans b1
    have b2 : Blk wr (w.heap.size + 1) 28 (adC b) := (congrArg (fun h : Array Obj => h[w.heap.size + 1]?) hwh).trans b2
    have HW := Lib.hid (And.intro hwh hW)
    have HT := Lib.hid htk
    by_cases hlt : i < 20
    · obtain ⟨x, hx, hx2, k1⟩ := ha.cell b1 i hlt
      obtain ⟨y, hy, hy2, k2⟩ := hb.cell b2 i hlt
      have g0 : (i : Int) < 20 := by omega
      have g1 : (0 : Int) ≤ (i : Int) := by omega
      have g2 : IntKind.i64.wrap ((i : Int) + 1) = ((i + 1 : Nat) : Int) := IntWalk.i64_in _ (by omega)
      have d1 := Lib.hid (@bv_first a b (by rw [ha.1, hb.1]) ha.2 hb.2 i x y htk hx hy)
      have d2 := Lib.hid (@bv_first b a (by rw [ha.1, hb.1]) hb.2 ha.2 i y x htk.symm hy hx)
      have HI := Lib.hid (And.intro hx hy)
      clear htk hx hy ha hb b1 b2 hW hwh hx2 hy2
      by_cases c1 : x < y
      · have q1 : (x : Int) < (y : Int) := by omega
        have he : ordN (bv a) (bv b) = -1 := by unfold ordN; rw [if_pos (d1.out c1)]
        have HE := Lib.hid he
        clear he c1
        go_wp2_with fail
        go_quiet (fail)
        go_wp2_with fail
        go_ret
        rw [HE.out]
        exact ⟨rfl, HW.out.2.trans ⟨rfl, rfl, rfl, Nat.le_refl _, fun _ _ => rfl⟩⟩
      · have q1 : ¬ (x : Int) < (y : Int) := by omega
        by_cases c2 : y < x
        · have q2 : (y : Int) < (x : Int) := by omega
          have h3 := d2.out c2
          have he : ordN (bv a) (bv b) = 1 := by unfold ordN; rw [if_neg (by omega), if_pos h3]
          have HE := Lib.hid he
          clear he c1 c2 h3
          go_wp2_with fail
          go_quiet (fail)
          go_wp2_with fail
          go_quiet (fail)
          go_wp2_with fail
          go_ret
          rw [HE.out]
          exact ⟨rfl, HW.out.2.trans ⟨rfl, rfl, rfl, Nat.le_refl _, fun _ _ => rfl⟩⟩
        · obtain rfl : x = y := by omega
          clear c1 c2
          have q2 : ¬ (x : Int) < (x : Int) := by omega
          go_wp2_with fail
          go_quiet (fail)
          go_wp2_with fail
          go_quiet (fail)
          go_wp2_with fail
          have htk : a.take (i + 1) = b.take (i + 1) := by rw [List.take_add_one, List.take_add_one, HT.out, HI.out.1, HI.out.2]
          exact ⟨⟨i + 1, congrArg (Value.int .i64) (by omega), by omega, htk, HW.out.1, HW.out.2.trans ⟨rfl, rfl, rfl, Nat.le_refl _, fun _ _ => rfl⟩⟩, by simp [intOf]; omega⟩
    · obtain rfl : i = 20 := by omega
      have he : ordN (bv a) (bv b) = 0 := by
        rw [List.take_of_length_le (by rw [ha.1]; exact Nat.le_refl _), List.take_of_length_le (by rw [hb.1]; exact Nat.le_refl _)] at htk
        unfold ordN
        rw [htk, if_neg (by omega), if_neg (by omega)]
      have HE := Lib.hid he
      clear he htk ha hb b1 b2 hW hwh
      go_wp2_with fail
      go_ret
      rw [HE.out]
      exact ⟨rfl, HW.out.2⟩
end Go.Proofs.Ytcplhalgjjhmdaa
