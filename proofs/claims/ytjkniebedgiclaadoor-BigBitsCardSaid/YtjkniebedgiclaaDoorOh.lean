/- big: Order. -/
import Derived.Test.YtjkniebedgiclaaDoorOg
import Derived.Lib.BytesEntry
namespace Go.Proofs.YtjkniebedgiclaaDoor
open Go.RowKit Go.Shelf

/-- One number beside another. -/
def ordN (a b : Nat) : Int := if a < b then -1 else if b < a then 1 else 0
theorem u8_nat (x : Nat) (h : x < 256) : x.toUInt8.toNat = x := by
  show x % 256 = x
  omega
theorem compare_bv : ∀ (l m : List Nat), l.length = m.length → (∀ x ∈ l, x < 256) → (∀ x ∈ m, x < 256) → Lib.compareBytes (l.map Nat.toUInt8) (m.map Nat.toUInt8) = ordN (bv l) (bv m)
  | [], [], _, _, _ => rfl
  | [], _ :: _, h, _, _ => by simp at h
  | _ :: _, [], h, _, _ => by simp at h
  | x :: l, y :: m, h, hl, hm => by
    have h0 : l.length = m.length := by simpa using h
    have ih := compare_bv l m h0 (fun z hz => hl z (by simp [hz])) (fun z hz => hm z (by simp [hz]))
    have hx := hl x (by simp)
    have hy := hm y (by simp)
    have bl := bv_lt l (fun z hz => hl z (by simp [hz]))
    have bm := bv_lt m (fun z hz => hm z (by simp [hz]))
    rw [List.map_cons, List.map_cons]
    unfold Lib.compareBytes
    rw [bv_cons, bv_cons, ← h0, ih]
    rw [← h0] at bm
    have lt1 : ∀ a b : Nat, a < 256 → b < 256 → (a.toUInt8 < b.toUInt8 ↔ a < b) := fun a b ha hb => by
      rw [UInt8.lt_iff_toNat_lt, u8_nat a ha, u8_nat b hb]
    generalize 256 ^ l.length = P at *
    unfold ordN
    by_cases h1 : x < y
    · rw [if_pos ((lt1 x y hx hy).2 h1), if_pos]
      have := Nat.mul_le_mul_right P (show x + 1 ≤ y by omega)
      rw [Nat.succ_mul] at this
      omega
    · rw [if_neg (fun e => h1 ((lt1 x y hx hy).1 e))]
      by_cases h2 : y < x
      · have := Nat.mul_le_mul_right P (show y + 1 ≤ x by omega)
        rw [Nat.succ_mul] at this
        rw [if_pos ((lt1 y x hy hx).2 h2), if_neg (by omega), if_pos (by omega)]
      · rw [if_neg (fun e => h2 ((lt1 y x hy hx).1 e))]
        have e : x = y := by omega
        subst e
        have e1 : (x * P + bv l < x * P + bv m) ↔ bv l < bv m := by omega
        have e2 : (x * P + bv m < x * P + bv l) ↔ bv m < bv l := by omega
        simp only [e1, e2]
/-- Bare numbers: the longer one is more. -/
theorem bare_less (a b : List Nat) (ha : ∀ x ∈ a, x < 256) (h : (dz a).length < (dz b).length) : bv a < bv b := by
  rw [← bv_dz a, ← bv_dz b]
  have h1 := bv_lt (dz a) (fun x hx => ha x (dz_mem a x hx))
  cases e : dz b with
  | nil => rw [e] at h; simp at h
  | cons y ys =>
    rw [e] at h
    simp only [List.length_cons] at h
    have hy : y ≠ 0 := by
      intro e0
      have h2 := dz_idem b
      rw [e, e0] at h2
      have h3 := dz_le ys
      have h4 : dz (0 :: ys) = dz ys := rfl
      rw [h4] at h2
      have := congrArg List.length h2
      simp only [List.length_cons] at this
      omega
    rw [bv_cons]
    have h2 : 256 ^ (dz a).length ≤ 256 ^ ys.length := Nat.pow_le_pow_right (by omega) (by omega)
    have h3 := Nat.mul_le_mul_right (256 ^ ys.length) (show 1 ≤ y by omega)
    rw [Nat.one_mul] at h3
    omega
theorem order_eq (a b : List Nat) (ha : ∀ x ∈ a, x < 256) (hb : ∀ x ∈ b, x < 256) :
    (if ordN (dz a).length (dz b).length = 0 then Lib.compareBytes ((dz a).map Nat.toUInt8) ((dz b).map Nat.toUInt8) else ordN (dz a).length (dz b).length) = ordN (bv a) (bv b) := by
  by_cases h1 : (dz a).length < (dz b).length
  · have := bare_less a b ha h1
    unfold ordN
    rw [if_pos h1, if_pos this]; rfl
  · by_cases h2 : (dz b).length < (dz a).length
    · have := bare_less b a hb h2
      unfold ordN
      rw [if_neg h1, if_pos h2, if_neg (show ¬ (1 : Int) = 0 by omega), if_neg (show ¬ bv a < bv b by omega), if_pos this]
    · have e : (dz a).length = (dz b).length := by omega
      rw [compare_bv _ _ e (fun x hx => ha x (dz_mem a x hx)) (fun x hx => hb x (dz_mem b x hx)), bv_dz, bv_dz]
      unfold ordN
      rw [if_neg h1, if_neg h2, if_pos rfl]
theorem run_bytes {B : Nat} {v : Value} {l : List Nat} {w : World} (hv : Bto B w v l) : (Extern.Bytes.bytesOf v).run Tryd.prog w = .ok ⟨(l.map Nat.toUInt8).toArray⟩ w := by
  obtain ⟨hb, x, c, rfl, _, _, hc⟩ := hv
  by_cases hl : l = []
  · subst hl
    cases x with
    | none => rfl
    | some a => rfl
  · obtain ⟨b, o, rfl, _, _, hc⟩ := hc hl
    have hl := Lib.run_loadBytesX (P := Tryd.prog) w (l.map fun x => ((x : Nat) : Int)) ⟨b, o, none⟩ .empty (fun j x hj => by
      rw [List.getElem?_map] at hj
      cases e : l[j]? with
      | none => rw [e] at hj; simp at hj
      | some u =>
        rw [e] at hj
        simp at hj
        have e2 : (⟨b, o, none⟩ : Addr).add j = ⟨b, o + j, none⟩ := by unfold Addr.add; split <;> simp_all
        rw [e2, hc j u e, hj])
    rw [List.length_map] at hl
    show (Extern.Bytes.loadBytes ⟨b, o, none⟩ l.length .empty).run Tryd.prog w = _
    rw [hl]
    congr 1
    apply ByteArray.ext
    simp [Lib.bytesOf]
set_option maxRecDepth 100000 in
theorem bcompare_any (B1 B2 : Nat) (v1 v2 : Value) (l m : List Nat) (w : World) (h1 : Bto B1 w v1 l) (h2 : Bto B2 w v2 m) :
    Calls Tryd.prog 31 #[v1, v2] w fun e w' => e = .returned (.int .i64 (Lib.compareBytes (l.map Nat.toUInt8) (m.map Nat.toUInt8))) ∧ w = w' := by
  have hr : (Extern.BytealgCompare.compare #[v1, v2]).run Tryd.prog w = .ok (.int .i64 (Lib.compareBytes (l.map Nat.toUInt8) (m.map Nat.toUInt8))) w := by
    change Sem.run Tryd.prog (do pure (goInt (Extern.BytealgCompare.cmp (← Extern.Bytes.bytesOf v1) (← Extern.Bytes.bytesOf v2)))) w = _
    simp only [Sem.run_bind, Sem.run_pure, Result.andThen, run_bytes h1, run_bytes h2]
    rw [Lib.cmp_eq]
    rfl
  clear h1 h2
  go_enter Tryd.func31, Tryd.ntmps31
  go_wp2_with fail
  rw [run_callFunc_extern Tryd.func48 (by kernel_rfl) (by kernel_rfl) (by kernel_rfl) (e := Extern.BytealgCompare.compare) (by kernel_rfl), hr]
  simp only [Result.andThen]
  rw [Oper.upon_value]
  go_wp2_with fail
  go_ret
  exact ⟨rfl, rfl⟩
set_option maxRecDepth 100000 in
theorem isnan_any (a : Int) (w : World) : Calls Tryd.prog 47 #[.int .i64 a] w fun e w' => e = .returned (.bool false) ∧ w = w' := by
  go_enter Tryd.func47, Tryd.ntmps47
  go_wp2_with fail
  go_ret
  exact ⟨by simp, rfl⟩
set_option maxRecDepth 100000 in
set_option maxHeartbeats 2000000 in
theorem icompare_any (a b : Nat) (w : World) : Calls Tryd.prog 30 #[.int .i64 a, .int .i64 b] w fun e w' => e = .returned (.int .i64 (ordN a b)) ∧ w = w' := by
  have h1 := Lib.hid (isnan_any a w)
  have h2 := Lib.hid (isnan_any b w)
  by_cases g1 : a < b
  · have k1 : (a : Int) < (b : Int) := by omega
    have e : ordN a b = -1 := by unfold ordN; rw [if_pos g1]
    rw [e]
    clear e g1
    go_enter Tryd.func30, Tryd.ntmps30
    go_wp2_with (first | (go_at_call 47; first | (refine h1.out.mono ?_; rintro e w1 ⟨rfl, rfl⟩) | (refine h2.out.mono ?_; rintro e w1 ⟨rfl, rfl⟩)) | fail)
    go_ret
    exact ⟨rfl, rfl⟩
  · have k1 : ¬ (a : Int) < (b : Int) := by omega
    by_cases g2 : b < a
    · have k2 : (b : Int) < (a : Int) := by omega
      have e : ordN a b = 1 := by unfold ordN; rw [if_neg g1, if_pos g2]
      rw [e]
      clear e g1 g2
      go_enter Tryd.func30, Tryd.ntmps30
      go_wp2_with (first | (go_at_call 47; first | (refine h1.out.mono ?_; rintro e w1 ⟨rfl, rfl⟩) | (refine h2.out.mono ?_; rintro e w1 ⟨rfl, rfl⟩)) | fail)
      go_ret
      exact ⟨rfl, rfl⟩
    · have k2 : ¬ (b : Int) < (a : Int) := by omega
      have e : ordN a b = 0 := by unfold ordN; rw [if_neg g1, if_neg g2]
      rw [e]
      clear e g1 g2
      go_enter Tryd.func30, Tryd.ntmps30
      go_wp2_with (first | (go_at_call 47; first | (refine h1.out.mono ?_; rintro e w1 ⟨rfl, rfl⟩) | (refine h2.out.mono ?_; rintro e w1 ⟨rfl, rfl⟩)) | fail)
      go_ret
      exact ⟨rfl, rfl⟩
set_option maxRecDepth 100000 in
set_option maxHeartbeats 2000000 in
theorem or_any (i j : Int) (g : Nat) (t : TypeId) (w : World) (hg : Blk w g t #[.int .i64 i, .int .i64 j]) :
    Calls Tryd.prog 32 #[.slice (some ⟨g, 0, none⟩) 2 2] w fun e w' => e = .returned (.int .i64 (if i = 0 then j else i)) ∧ w = w' := by
  have k0 := cell_of_row _ _ 0 _ _ _ hg
  have k1 := cell_of_row _ _ 1 _ _ _ hg
  clear hg
  by_cases h1 : i = 0
  · subst h1
    rw [if_pos rfl]
    by_cases h2 : j = 0
    · subst h2
      go_enter Tryd.func32, Tryd.ntmps32
      go_wp2_with fail
      refine wp_loop_rounds 3 ?_
      rw [rounds_succ]
      go_wp2_with fail
      rw [rounds_succ]
      go_wp2_with fail
      rw [rounds_succ]
      go_wp2_with fail
      go_ret
      exact ⟨rfl, rfl⟩
    · have b2 : (j == 0) = false := by simp [h2]
      go_enter Tryd.func32, Tryd.ntmps32
      go_wp2_with fail
      refine wp_loop_rounds 3 ?_
      rw [rounds_succ]
      go_wp2_with fail
      rw [rounds_succ]
      go_wp2_with fail
      go_ret
      exact ⟨rfl, rfl⟩
  · rw [if_neg h1]
    have b1 : (i == 0) = false := by simp [h1]
    go_enter Tryd.func32, Tryd.ntmps32
    go_wp2_with fail
    refine wp_loop_rounds 3 ?_
    rw [rounds_succ]
    go_wp2_with fail
    go_ret
    exact ⟨rfl, rfl⟩
end Go.Proofs.YtjkniebedgiclaaDoor
