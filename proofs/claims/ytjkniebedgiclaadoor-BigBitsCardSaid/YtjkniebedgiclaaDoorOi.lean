/- big: Order. -/
import Derived.Test.YtjkniebedgiclaaDoorOh
namespace Go.Proofs.YtjkniebedgiclaaDoor
open Go.RowKit Go.Shelf

set_option maxRecDepth 100000 in
set_option maxHeartbeats 4000000 in
theorem order_any (B : Nat) (v1 v2 : Value) (a b : List Nat) (w : World) (h1 : a.length ≤ 1000000) (h2 : b.length ≤ 1000000) (ha : Bto B w v1 a) (hb : Bto B w v2 b) :
    Calls Tryd.prog 16 #[v1, v2] w fun e w' => e = .returned (.int .i64 (ordN (bv a) (bv b))) ∧ Below w.heap.size w w' := by
  have H1 := Lib.hid (bare_any B v1 a w h1 ha)
  have H2 := Lib.hid (bare_any B v2 b w h2 hb)
  have HE := Lib.hid (order_eq a b ha.1 hb.1)
  clear ha hb
  go_enter Tryd.func16, Tryd.ntmps16
  obtain ⟨la, ea⟩ : ∃ n, (dz a).length = n := ⟨_, rfl⟩
  obtain ⟨lb, eb⟩ : ∃ n, (dz b).length = n := ⟨_, rfl⟩
  have HI := Lib.hid (icompare_any la lb w)
  have HL := Lib.hid (And.intro ea eb)
  rw [ea, eb] at HE
  clear ea eb
  go_wp2_with (first | (go_at_call 27; first | (refine H1.out.mono ?_; rintro e w1 ⟨⟨u1, rfl, q1⟩, rfl⟩; have Q1 := Lib.hid q1; obtain ⟨x1, c1, rfl⟩ := q1.is; rw [HL.out.1] at *; clear q1) | (refine H2.out.mono ?_; rintro e w1 ⟨⟨u2, rfl, q2⟩, rfl⟩; have Q2 := Lib.hid q2; obtain ⟨x2, c2, rfl⟩ := q2.is; rw [HL.out.2] at *; clear q2; have HC := Lib.hid (bcompare_any B B _ _ _ _ w Q1.out.1 Q2.out.1)) | fail) | (go_at_call 30; refine HI.out.mono ?_; rintro e w1 ⟨rfl, rfl⟩) | (go_at_call 31; refine HC.out.mono ?_; rintro e w1 ⟨rfl, rfl⟩) | fail)
  have hr := HE.out
  clear HE HC HI
  obtain ⟨i, hi⟩ : ∃ i, ordN la lb = i := ⟨_, rfl⟩
  obtain ⟨j, hj⟩ : ∃ j, Lib.compareBytes ((dz a).map Nat.toUInt8) ((dz b).map Nat.toUInt8) = j := ⟨_, rfl⟩
  rw [hi, hj] at hr
  rw [hi, hj]
  have hO := or_any i j w.heap.size _ (w.alloc (.cells #[.int .i64 i, .int .i64 j] 63)) (Blk.new w 63 _)
  rw [hr] at hO
  clear hr
  refine hO.mono ?_
  rintro e w1 ⟨rfl, rfl⟩
  clear hO hi hj H1 H2 Q1 Q2
  go_wp2_with fail
  go_ret
  exact ⟨rfl, balloc (Below.refl w.heap.size w) _⟩
end Go.Proofs.YtjkniebedgiclaaDoor
