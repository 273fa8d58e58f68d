/- label: the chapter's rows. -/
import Derived.Test.YtmcfccbaogjblaaDoorGj
namespace Go.Proofs.YtmcfccbaogjblaaDoor
open Go.RowKit Go.Shelf

theorem eb5 : txL 5 = [48, 44, 50] := by decide
theorem eb1 : txL 1 = [48] := by decide
theorem parse_1 (w : World) (hT : TZ w) : Calls Tryd.prog 16 #[.string ⟨#[48, 44, 50]⟩] w fun e w' => e = .returned (.tuple #[.int .u64 5, .int .i64 0]) ∧ Below w.heap.size w w' := by
  have h := parse_any ⟨#[48, 44, 50]⟩ (by decide) w hT
  obtain ⟨e1, e2⟩ := lab_of (a := 5) (l := [48, 44, 50]) (by decide) eb5
  rw [show (ByteArray.mk #[48, 44, 50]).data.toList = [48, 44, 50] from rfl, e1, e2] at h
  exact h
theorem parse_2 (w : World) (hT : TZ w) : Calls Tryd.prog 16 #[.string ⟨#[50, 44, 48]⟩] w fun e w' => e = .returned (.tuple #[.int .u64 0, .int .i64 180]) ∧ Below w.heap.size w w' := by
  have h := parse_any ⟨#[50, 44, 48]⟩ (by decide) w hT
  obtain ⟨e1, e2⟩ := lab_scan_other (l := [50, 44, 48]) (S := 4) (p := 0) (by decide) (by decide)
  rw [show (ByteArray.mk #[50, 44, 48]).data.toList = [50, 44, 48] from rfl, e1, e2] at h
  exact h
theorem parse_3 (w : World) (hT : TZ w) : Calls Tryd.prog 16 #[.string ⟨#[54, 52]⟩] w fun e w' => e = .returned (.tuple #[.int .u64 0, .int .i64 180]) ∧ Below w.heap.size w w' := by
  have h := parse_any ⟨#[54, 52]⟩ (by decide) w hT
  obtain ⟨e1, e2⟩ := lab_scan_none (l := [54, 52]) (by decide) (by decide)
  rw [show (ByteArray.mk #[54, 52]).data.toList = [54, 52] from rfl, e1, e2] at h
  exact h
theorem parse_4 (w : World) (hT : TZ w) : Calls Tryd.prog 16 #[.string ⟨#[48, 48]⟩] w fun e w' => e = .returned (.tuple #[.int .u64 0, .int .i64 180]) ∧ Below w.heap.size w w' := by
  have h := parse_any ⟨#[48, 48]⟩ (by decide) w hT
  obtain ⟨e1, e2⟩ := lab_scan_other (l := [48, 48]) (S := 0) (p := 0) (by decide) (by decide)
  rw [show (ByteArray.mk #[48, 48]).data.toList = [48, 48] from rfl, e1, e2] at h
  exact h
theorem join_16 (w : World) : Calls Tryd.prog 11 #[.slice (some ⟨w.heap.size, 0, none⟩) 2 2] (w.alloc (.cells #[.int .u64 1, .int .u64 6] 24)) fun e w' => e = .returned (.int .u64 7) ∧ w.alloc (.cells #[.int .u64 1, .int .u64 6] 24) = w' :=
  join_any [1, 6] _ _ (LsA.two w 1 6 (by decide) (by decide) 24)
theorem meet_36 (w : World) : Calls Tryd.prog 12 #[.slice (some ⟨w.heap.size, 0, none⟩) 2 2] (w.alloc (.cells #[.int .u64 3, .int .u64 6] 24)) fun e w' => e = .returned (.int .u64 2) ∧ w.alloc (.cells #[.int .u64 3, .int .u64 6] 24) = w' :=
  meet_any [3, 6] _ _ (LsA.two w 3 6 (by decide) (by decide) 24)
theorem meet_nil (w : World) : Calls Tryd.prog 12 #[.slice none 0 0] w fun e w' => e = .returned (.int .u64 18446744073709551615) ∧ w = w' := meet_any [] _ _ (LsA.nil w)
theorem below_23 (w : World) : Calls Tryd.prog 13 #[.int .u64 2, .int .u64 3] w fun e w' => e = .returned (.bool true) ∧ Below w.heap.size w w' := below_any 2 3 (by decide) (by decide) w
theorem below_43 (w : World) : Calls Tryd.prog 13 #[.int .u64 4, .int .u64 3] w fun e w' => e = .returned (.bool false) ∧ Below w.heap.size w w' := below_any 4 3 (by decide) (by decide) w
theorem text_5 (w : World) (hT : TZ w) : Calls Tryd.prog 15 #[.int .u64 5] w fun e w' => e = .returned (.string ⟨#[48, 44, 50]⟩) ∧ Below w.heap.size w w' := by
  have h := text_any 5 (by decide) w hT
  rw [eb5] at h
  exact h
set_option maxRecDepth 100000 in
theorem num_any (x : Int) (w : World) : Calls Tryd.prog 19 #[.int .i64 x] w fun e w' => e = .returned (.int .i64 x) ∧ w = w' := by
  go_enter Tryd.func19, Tryd.ntmps19
  go_wp2
  go_ret
  exact ⟨rfl, rfl⟩

set_option maxRecDepth 100000 in
set_option maxHeartbeats 4000000 in
theorem works_any (w : World) (hT : TZ w) : Calls Tryd.prog 7 #[] w fun e w' => e = .returned (.bool true) ∧ Below w.heap.size w w' := by
  have H0 := Lib.hid (And.intro hT (Below.refl w.heap.size w))
  clear hT
  go_enter Tryd.func7, Tryd.ntmps7
  go_wp2_with fail
  refine (parse_1 _ H0.out.1).mono ?_
  rintro e w1 ⟨rfl, h1⟩
  have H1 := Lib.hid (And.intro (H0.out.1.keep h1) (bstep H0.out.2 h1))
  clear h1 H0
  go_wp2_with fail
  refine (parse_2 _ H1.out.1).mono ?_
  rintro e w2 ⟨rfl, h2⟩
  have H2 := Lib.hid (And.intro (H1.out.1.keep h2) (bstep H1.out.2 h2))
  clear h2 H1
  go_wp2_with fail
  refine (parse_3 _ H2.out.1).mono ?_
  rintro e w3 ⟨rfl, h3⟩
  have H3 := Lib.hid (And.intro (H2.out.1.keep h3) (bstep H2.out.2 h3))
  clear h3 H2
  go_wp2_with fail
  refine (parse_4 _ H3.out.1).mono ?_
  rintro e w4 ⟨rfl, h4⟩
  have H4 := Lib.hid (And.intro (H3.out.1.keep h4) (bstep H3.out.2 h4))
  clear h4 H3
  go_wp2_with fail
  refine (join_16 _).mono ?_
  rintro e w5 ⟨rfl, rfl⟩
  have H5 := Lib.hid (And.intro (H4.out.1.keep (balloc (Below.refl _ _) (.cells #[.int .u64 1, .int .u64 6] 24))) (balloc H4.out.2 (.cells #[.int .u64 1, .int .u64 6] 24)))
  clear H4
  generalize w4.alloc (.cells #[.int .u64 1, .int .u64 6] 24) = w5 at H5 ⊢
  go_wp2_with fail
  refine (meet_36 _).mono ?_
  rintro e w6 ⟨rfl, rfl⟩
  have H6 := Lib.hid (And.intro (H5.out.1.keep (balloc (Below.refl _ _) (.cells #[.int .u64 3, .int .u64 6] 24))) (balloc H5.out.2 (.cells #[.int .u64 3, .int .u64 6] 24)))
  clear H5
  generalize w5.alloc (.cells #[.int .u64 3, .int .u64 6] 24) = w6 at H6 ⊢
  go_wp2_with fail
  refine (meet_nil _).mono ?_
  rintro e _ ⟨rfl, rfl⟩
  go_wp2_with fail
  refine (below_23 _).mono ?_
  rintro e w7 ⟨rfl, h7⟩
  have H7 := Lib.hid (And.intro (H6.out.1.keep h7) (bstep H6.out.2 h7))
  clear h7 H6
  go_wp2_with fail
  refine (below_43 _).mono ?_
  rintro e w8 ⟨rfl, h8⟩
  have H8 := Lib.hid (And.intro (H7.out.1.keep h8) (bstep H7.out.2 h8))
  clear h8 H7
  go_wp2_with fail
  refine (text_zero _).mono ?_
  rintro e w9 ⟨rfl, h9⟩
  have H9 := Lib.hid (And.intro (H8.out.1.keep h9) (bstep H8.out.2 h9))
  clear h9 H8
  go_wp2_with fail
  refine (text_5 _ H9.out.1).mono ?_
  rintro e w10 ⟨rfl, h10⟩
  have H10 := Lib.hid (And.intro (H9.out.1.keep h10) (bstep H9.out.2 h10))
  clear h10 H9
  go_wp2_with (first | (go_at_call 19; refine (num_any _ _).mono ?_; rintro e _ ⟨rfl, rfl⟩) | fail)
  go_ret
  exact ⟨rfl, H10.out.2⟩
end Go.Proofs.YtmcfccbaogjblaaDoor
