/- tag: TagParts' walk. -/
import Derived.Test.YtkhdjlahfbmkoaaTgq
namespace Go.Proofs.Ytkhdjlahfbmkoaa
open Go.RowKit Go.Shelf

set_option maxRecDepth 100000 in
set_option maxHeartbeats 4000000 in
theorem tparts_walk (B : Nat) (v : Value) (l : List (Nat × Nat)) (at_ many : Int) (hat : -9223372036854775808 ≤ at_ ∧ at_ < 9223372036854775808) (hmn : -9223372036854775808 ≤ many ∧ many < 9223372036854775808) (w : World) (hB : B ≤ w.heap.size) (hv : Cs B w v l) :
    Calls Try.prog 4 #[v, .int .i64 at_, .int .i64 many] w fun e w' => e = .returned (.bool true) ∧ Below w.heap.size w w' := by
  obtain ⟨x, c, rfl⟩ := hv.is
  by_cases h1 : 200 < l.length
  · have h1I : (200 : Int) < (l.length : Int) := by omega
    clear hv hB hat hmn h1
    skip
    go_enter Try.func4, Try.ntmps4
    go_wp2_with (first | (go_at_call 7; refine (tworks_any _).mono ?_; rintro e wz ⟨rfl, hz⟩; have HZ := Lib.hid hz; clear hz) | fail)
    go_ret
    exact ⟨rfl, HZ.out⟩
  · have h1I : ¬ (200 : Int) < (l.length : Int) := by omega
    by_cases h2 : 400 < many
    · by_cases h3 : many ≤ 65536
      · clear hv hB hat hmn h1
        skip
        go_enter Try.func4, Try.ntmps4
        go_wp2_with (first | (go_at_call 7; refine (tworks_any _).mono ?_; rintro e wz ⟨rfl, hz⟩; have HZ := Lib.hid hz; clear hz) | fail)
        go_ret
        exact ⟨rfl, HZ.out⟩
      · have h4 : 65536 < many := by omega
        have h5 : ¬ many < 0 := by omega
        by_cases h6 : at_ < 0
        · have HP := Lib.hid (part_bad (.slice x l.length c) at_ many hat hmn (by omega) w)
          clear hv hB hat hmn
          go_enter Try.func4, Try.ntmps4
          go_wp2_with (first
            | (go_at_call 21; refine (HP.out).mono ?_; rintro e w1 ⟨rfl, rfl⟩)
            | (go_at_call 22; refine (num_any9 2 _).mono ?_; rintro e w1 ⟨rfl, rfl⟩)
            | (go_at_call 7; refine (tworks_any _).mono ?_; rintro e wz ⟨rfl, hz⟩; have HZ := Lib.hid hz; clear hz)
            | fail)
          go_ret
          exact ⟨rfl, HZ.out⟩
        · have HP := Lib.hid (part_bad (.slice x l.length c) at_ many hat hmn (by omega) w)
          clear hv hB hat hmn
          go_enter Try.func4, Try.ntmps4
          go_wp2_with (first
            | (go_at_call 21; refine (HP.out).mono ?_; rintro e w1 ⟨rfl, rfl⟩)
            | (go_at_call 22; refine (num_any9 2 _).mono ?_; rintro e w1 ⟨rfl, rfl⟩)
            | (go_at_call 7; refine (tworks_any _).mono ?_; rintro e wz ⟨rfl, hz⟩; have HZ := Lib.hid hz; clear hz)
            | fail)
          go_ret
          exact ⟨rfl, HZ.out⟩
    · by_cases h6 : at_ < 0
      · have HP := Lib.hid (part_bad (.slice x l.length c) at_ many hat hmn (by omega) w)
        clear hv hB hat hmn
        go_enter Try.func4, Try.ntmps4
        go_wp2_with (first
          | (go_at_call 21; refine (HP.out).mono ?_; rintro e w1 ⟨rfl, rfl⟩)
          | (go_at_call 22; refine (num_any9 2 _).mono ?_; rintro e w1 ⟨rfl, rfl⟩)
          | (go_at_call 7; refine (tworks_any _).mono ?_; rintro e wz ⟨rfl, hz⟩; have HZ := Lib.hid hz; clear hz)
          | fail)
        go_ret
        exact ⟨rfl, HZ.out⟩
      · by_cases h5 : many < 0
        · have HP := Lib.hid (part_bad (.slice x l.length c) at_ many hat hmn (by omega) w)
          clear hv hB hat hmn
          go_enter Try.func4, Try.ntmps4
          go_wp2_with (first
            | (go_at_call 21; refine (HP.out).mono ?_; rintro e w1 ⟨rfl, rfl⟩)
            | (go_at_call 22; refine (num_any9 2 _).mono ?_; rintro e w1 ⟨rfl, rfl⟩)
            | (go_at_call 7; refine (tworks_any _).mono ?_; rintro e wz ⟨rfl, hz⟩; have HZ := Lib.hid hz; clear hz)
            | fail)
          go_ret
          exact ⟨rfl, HZ.out⟩
        · obtain ⟨p, rfl⟩ := Int.eq_ofNat_of_zero_le (show 0 ≤ at_ by omega)
          obtain ⟨q, rfl⟩ := Int.eq_ofNat_of_zero_le (show 0 ≤ many by omega)
          have h7 : ¬ (65536 : Int) < (q : Int) := by omega
          have HP := Lib.hid (part_any B _ l p q (by omega) w hB hv)
          have HR := Lib.hid (fun (Y : World) (h : Below w.heap.size w Y) => rtpart_any B _ l p q (by omega) (by omega) Y (hv.new h))
          have HO := Lib.hid (And.intro (paL_ok hv.1 p q) (show q ≤ 400 by omega))
          clear hv hB hat hmn h1
          go_enter Try.func4, Try.ntmps4
          go_wp2_with (first
            | (go_at_call 21; refine (HP.out).mono ?_; rintro e w1 ⟨g, rfl, hg, hb, hw⟩; have H1 := Lib.hid (And.intro hb hw); clear hg hb hw)
            | (go_at_call 23; refine (HR.out _ H1.out.2).mono ?_; rintro e w2 ⟨rfl, hb, hw⟩
               have h9 := Cs.of_blk (H1.out.1.keep hw) HO.out.1 (by rw [paL_len]; have := HO.out.2; omega)
               have h10 := Cs.of_blk hb HO.out.1 (by rw [paL_len]; have := HO.out.2; omega)
               rw [paL_len] at h9 h10
               have h8 := equal_any9 _ _ _ _ _ _ _ h9 h10
               rw [alB_refl] at h8
               have H2 := Lib.hid (And.intro h8 hw); clear h8 h9 h10 hb hw)
            | (go_at_call 8; refine (H2.out.1).mono ?_; rintro e w3 ⟨rfl, hw⟩; have H3 := Lib.hid hw; clear hw)
            | (go_at_call 22; refine (num_any9 0 _).mono ?_; rintro e w4 ⟨rfl, rfl⟩)
            | (go_at_call 7; refine (tworks_any _).mono ?_; rintro e wz ⟨rfl, hz⟩; have HZ := Lib.hid hz; clear hz)
            | fail)
          go_ret
          exact ⟨rfl, bstep (bstep (bstep H1.out.2 H2.out.2) H3.out) HZ.out⟩
end Go.Proofs.Ytkhdjlahfbmkoaa
