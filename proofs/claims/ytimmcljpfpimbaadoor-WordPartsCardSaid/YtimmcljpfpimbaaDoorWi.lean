/- Layer word: the word of a text (word.Parse). -/
import Derived.Test.YtimmcljpfpimbaaDoorWh
import Derived.ScopeJumps
namespace Go.Proofs.YtimmcljpfpimbaaDoor
open Go.RowKit

/-- Where Parse jumps to what is no text: the result's variable is at hand, still nought. -/
def PJ (B : Nat) (w0 : World) (a : Act) (w : World) : Prop := ∃ x0 x1 x3 x4 x5 x6 x7 x8 x9 x10 x11 x12 x13 x14 x15 x16 x17 x18 x19 x20 x21 x22 x23 x24 x25 x26 x27 x28 x29 x30 x31 x32 x33 x34 x35 x36 x37 x38 x39 x40 x41 x42 x43 x44 x45 x46 x47 x48 x49 : Value, a = { tmps := #[x0, x1, .pointer (some ⟨B, 0, none⟩), x3, x4, x5, x6, x7, x8, x9, x10, x11, x12, x13, x14, x15, x16, x17, x18, x19, x20, x21, x22, x23, x24, x25, x26, x27, x28, x29, x30, x31, x32, x33, x34, x35, x36, x37, x38, x39, x40, x41, x42, x43, x44, x45, x46, x47, x48, x49], defers := [] } ∧ Blk w B 24 #[.int .u64 0, .int .u64 0, .int .u64 0, .int .u64 0] ∧ Below w0.heap.size w0 w

/-- A letter's digit; 16: it is none's. -/
def dv (b : UInt8) : Nat := if 48 ≤ b.toNat ∧ b.toNat ≤ 57 then b.toNat - 48 else if 97 ≤ b.toNat ∧ b.toNat ≤ 102 then b.toNat - 87 else 16
theorem dv_all : ∀ n : Fin 256, Lib.indexByte [48, 49, 50, 51, 52, 53, 54, 55, 56, 57, 97, 98, 99, 100, 101, 102] (UInt8.ofNat n.val) = if dv (UInt8.ofNat n.val) < 16 then (dv (UInt8.ofNat n.val) : Int) else -1 := by decide +kernel
theorem dv_eq (b : UInt8) : Lib.indexByte [48, 49, 50, 51, 52, 53, 54, 55, 56, 57, 97, 98, 99, 100, 101, 102] b = if dv b < 16 then (dv b : Int) else -1 := by
  have h := dv_all ⟨b.toNat, b.toNat_lt⟩
  simpa using h
/-- The number of the first k digits. -/
def numD (l : List UInt8) : Nat → Nat
  | 0 => 0
  | k + 1 => numD l k * 16 + dv (l.getD k 0)

theorem cut_rest (s : ByteArray) (w : World) : Calls Tryd.prog 43 #[.string s, .string ⟨#[48, 120]⟩] w fun e w' => e = .returned (.tuple #[.string ⟨(Lib.trimPrefix s.data.toList [48, 120]).toArray⟩, .bool (Lib.hasPrefix s.data.toList [48, 120])]) ∧ w = w' := cutPrefix_any s ⟨#[48, 120]⟩ w

set_option maxRecDepth 100000 in
set_option maxHeartbeats 2000000 in
/-- What is no text. -/
theorem parse_bad (s R : ByteArray) (hp : Bool) (hs : R.size ≤ 64) (hR : Hid ((⟨(Lib.trimPrefix s.data.toList [48, 120]).toArray⟩ : ByteArray) = R)) (hP : Hid (Lib.hasPrefix s.data.toList [48, 120] = hp))
    (hbad : hp = false ∨ hp = true ∧ R.toList.isEmpty = true ∨ (∃ h0 : 0 < R.size, hp = true ∧ R[0]'h0 = 48 ∧ (R.toList == [48]) = false) ∨ (∃ h0 : 0 < R.size, hp = true ∧ R[0]'h0 ≠ 48 ∧ ∃ j, j < R.size ∧ ¬ dv (R.data.toList.getD j 0) < 16)) (w : World) :
    Calls Tryd.prog 27 #[.string s] w fun e w' => e = .returned (.tuple #[W 0, .int .i64 110]) ∧ Below w.heap.size w w' := by
  rw [W_zero]
  have bR0 := Blk.new w 24 #[.int .u64 0, .int .u64 0, .int .u64 0, .int .u64 0]
  go_enter Tryd.func27, Tryd.ntmps27
  go_wp2
  refine wp_scope_jumps 0 (PJ w.heap.size w) (fun _ _ => 0) rfl ?first ?pass
  case first =>
    rcases hbad with rfl | ⟨rfl, hE⟩ | ⟨h0, rfl, hz, hE⟩ | ⟨h0, rfl, hz, hE⟩
    · go_wp2_with (go_at_call 43; refine (cut_rest s _).mono ?_; rintro e w' ⟨rfl, rfl⟩; rw [hR.out, hP.out])
      go_step3
      exact ⟨rfl, _, _, _, _, _, _, _, _, _, _, _, _, _, _, _, _, _, _, _, _, _, _, _, _, _, _, _, _, _, _, _, _, _, _, _, _, _, _, _, _, _, _, _, _, _, _, _, _, _, rfl, bR0.alloc _, balloc (balloc (Below.refl _ _) _) _⟩
    · go_wp2_with (go_at_call 43; refine (cut_rest s _).mono ?_; rintro e w' ⟨rfl, rfl⟩; rw [hR.out, hP.out])
      go_step3
      exact ⟨rfl, _, _, _, _, _, _, _, _, _, _, _, _, _, _, _, _, _, _, _, _, _, _, _, _, _, _, _, _, _, _, _, _, _, _, _, _, _, _, _, _, _, _, _, _, _, _, _, _, _, rfl, bR0.alloc _, balloc (balloc (Below.refl _ _) _) _⟩
    · have hz' : (((R[0]'h0).toNat : Int) == 48) = true := by rw [hz]; rfl
      have hEm : R.toList.isEmpty = false := by rw [ByteArray.toList_eq]; have : 0 < R.data.toList.length := by simpa using h0
                                                cases hd : R.data.toList with
                                                | nil => rw [hd] at this; simp at this
                                                | cons _ _ => rfl
      clear hz
      go_wp2_with (go_at_call 43; refine (cut_rest s _).mono ?_; rintro e w' ⟨rfl, rfl⟩; rw [hR.out, hP.out])
      go_step3
      exact ⟨rfl, _, _, _, _, _, _, _, _, _, _, _, _, _, _, _, _, _, _, _, _, _, _, _, _, _, _, _, _, _, _, _, _, _, _, _, _, _, _, _, _, _, _, _, _, _, _, _, _, _, rfl, bR0.alloc _, balloc (balloc (Below.refl _ _) _) _⟩
    · have hz' : (((R[0]'h0).toNat : Int) == 48) = false := by
        rw [beq_eq_false_iff_ne]; intro e; exact hz (UInt8.toNat_inj.1 (by have : (R[0]'h0).toNat = 48 := by omega
                                                                           rw [this]; rfl))
      have hEm : R.toList.isEmpty = false := by rw [ByteArray.toList_eq]; have : 0 < R.data.toList.length := by simpa using h0
                                                cases hd : R.data.toList with
                                                | nil => rw [hd] at this; simp at this
                                                | cons _ _ => rfl
      clear hz
      go_wp2_with (go_at_call 43; refine (cut_rest s _).mono ?_; rintro e w' ⟨rfl, rfl⟩; rw [hR.out, hP.out])
      clear hz' hEm
      have HE := Lib.hid hE
      clear hE
      go_loopw [34] (fun i wr => ∃ k : Nat, k ≤ R.size ∧ (∀ j, j < k → dv (R.data.toList.getD j 0) < 16) ∧ i = .int .i64 k ∧ Blk wr (w.heap.size + 1) 62 (Dc (numD R.data.toList k) 4) ∧ Blk wr w.heap.size 24 #[.int .u64 0, .int .u64 0, .int .u64 0, .int .u64 0] ∧ Below w.heap.size w wr) (fun i _ => R.size - (intOf i).toNat)
      case atStart =>
        refine ⟨0, Nat.zero_le _, fun j hj => absurd hj (Nat.not_lt_zero _), rfl, ?_, bR0.alloc _, balloc (balloc (Below.refl _ _) _) _⟩
        have h := Blk.new (w.alloc (.cells #[.int .u64 0, .int .u64 0, .int .u64 0, .int .u64 0] 24)) 62 #[.int .u64 0, .int .u64 0, .int .u64 0, .int .u64 0, .int .i64 4]
        unfold Dc numD; simp only [lb_zero]; simpa using h
      case round =>
        obtain ⟨k, hk, hd, rfl, hs1, hr, hB⟩ := hrel
        have HD := Lib.hid hd
        have HS := Lib.hid hs1
        have HR2 := Lib.hid hr
        clear hd hs1 hr
        by_cases hlt : k < R.size
        · obtain ⟨b, hb⟩ : ∃ b, R[k]'hlt = b := ⟨_, rfl⟩
          have hg : Hid (R.data.toList.getD k 0 = b) := by
            show _ = _
            rw [← hb]; simp [List.getD, List.getElem?_eq_getElem (show k < R.data.toList.length by simpa using hlt)]; rfl
          have hbu : Hid ((b.toNat : Int).toNat.toUInt8 = b) := by show _ = _; simp
          have hx : Hid (Lib.indexByte [48, 49, 50, 51, 52, 53, 54, 55, 56, 57, 97, 98, 99, 100, 101, 102] b = _) := dv_eq b
          by_cases hdv : dv b < 16
          · have hnext : Hid (∀ j, j < k + 1 → dv (R.data.toList.getD j 0) < 16) := fun j hj => by
              rcases Nat.lt_succ_iff_lt_or_eq.1 hj with h | h
              · exact HD.out j h
              · subst h; rw [hg.out]; exact hdv
            rw [if_pos hdv] at hx
            go_wp2_with (first | (go_at_call 44; refine (indexByte_any ⟨#[48, 49, 50, 51, 52, 53, 54, 55, 56, 57, 97, 98, 99, 100, 101, 102]⟩ _ _).mono ?_; rintro e w' ⟨rfl, rfl⟩; rw [hbu.out, hx.out]) | (go_at_call 42; refine (take_4 (numD R.data.toList k) (dv b) (w.heap.size + 1) (by unfold B64; omega) _ HS.out).mono ?_; rintro e w1 ⟨rfl, hs1, hb1⟩))
            go_roundw
            case rel => exact ⟨k + 1, by omega, hnext.out, by go_num, by rw [numD, hg.out]; exact hs1, HR2.out.kept hb1 (by simp), hB.grown hb1 hB.size (fun j e => by cases e; omega)⟩
            case measure => simp [intOf]; omega
          · rw [if_neg hdv] at hx
            go_wp2_with (go_at_call 44; refine (indexByte_any ⟨#[48, 49, 50, 51, 52, 53, 54, 55, 56, 57, 97, 98, 99, 100, 101, 102]⟩ _ _).mono ?_; rintro e w' ⟨rfl, rfl⟩; rw [hbu.out, hx.out])
            go_step3
            exact ⟨rfl, _, _, _, _, _, _, _, _, _, _, _, _, _, _, _, _, _, _, _, _, _, _, _, _, _, _, _, _, _, _, _, _, _, _, _, _, _, _, _, _, _, _, _, _, _, _, _, _, _, rfl, HR2.out, hB⟩
        · exfalso
          obtain ⟨j, hj, hj2⟩ := HE.out
          exact hj2 (HD.out j (by omega))
  case pass =>
    rintro a X ⟨x0, x1, x3, x4, x5, x6, x7, x8, x9, x10, x11, x12, x13, x14, x15, x16, x17, x18, x19, x20, x21, x22, x23, x24, x25, x26, x27, x28, x29, x30, x31, x32, x33, x34, x35, x36, x37, x38, x39, x40, x41, x42, x43, x44, x45, x46, x47, x48, x49, rfl, bR, hB⟩
    have r0 := cell_of_row X _ 0 _ _ _ bR
    have r1 := cell_of_row X _ 1 _ _ _ bR
    have r2 := cell_of_row X _ 2 _ _ _ bR
    have r3 := cell_of_row X _ 3 _ _ _ bR
    have f0 := frozen_of_row X _ 0 _ _ bR
    have f1 := frozen_of_row X _ 1 _ _ bR
    have f2 := frozen_of_row X _ 2 _ _ bR
    have f3 := frozen_of_row X _ 3 _ _ bR
    go_wp2
    exact bodyPost_ret (R := fun e w' => e = .returned (.tuple #[.agg #[.int .u64 0, .int .u64 0, .int .u64 0, .int .u64 0], .int .i64 110]) ∧ Below w.heap.size w w') (v := .tuple #[.agg #[.int .u64 0, .int .u64 0, .int .u64 0, .int .u64 0], .int .i64 110]) (by simp [results, Tryd.results27, go_sem, r0, r1, r2, r3]) rfl ⟨rfl, (((hB.setCell (p := ⟨w.heap.size, 0, none⟩) (Nat.le_refl _) _).setCell (p := ⟨w.heap.size, 1, none⟩) (Nat.le_refl _) _).setCell (p := ⟨w.heap.size, 2, none⟩) (Nat.le_refl _) _).setCell (p := ⟨w.heap.size, 3, none⟩) (Nat.le_refl _) _⟩

set_option maxRecDepth 100000 in
set_option maxHeartbeats 2000000 in
/-- Digits behind 0x, none ahead of them a nought. -/
theorem parse_ok (s R : ByteArray) (hs : R.size ≤ 64) (hR : Hid ((⟨(Lib.trimPrefix s.data.toList [48, 120]).toArray⟩ : ByteArray) = R)) (hP : Hid (Lib.hasPrefix s.data.toList [48, 120] = true))
    (h0 : 0 < R.size) (hlead : Hid (R[0]'h0 ≠ 48 ∨ (R.toList == [48]) = true)) (hall : ∀ j, j < R.size → dv (R.data.toList.getD j 0) < 16) (w : World) :
    Calls Tryd.prog 27 #[.string s] w fun e w' => e = .returned (.tuple #[W (numD R.data.toList R.size), .int .i64 0]) ∧ Below w.heap.size w w' := by
  have bR0 := Blk.new w 24 #[.int .u64 0, .int .u64 0, .int .u64 0, .int .u64 0]
  have hEm : R.toList.isEmpty = false := by
    rw [ByteArray.toList_eq]; have : 0 < R.data.toList.length := by simpa using h0
    cases hd : R.data.toList with
    | nil => rw [hd] at this; simp at this
    | cons _ _ => rfl
  have HA := Lib.hid hall
  clear hall
  have hz : Hid ((((R[0]'h0).toNat : Int) == 48) = false ∨ (((R[0]'h0).toNat : Int) == 48) = true ∧ (R.toList == [48]) = true) := by
    rcases hlead.out with h | h
    · left
      rw [beq_eq_false_iff_ne]; intro e
      refine h (UInt8.toNat_inj.1 ?_)
      have : (R[0]'h0).toNat = 48 := by omega
      rw [this]; rfl
    · by_cases g : (((R[0]'h0).toNat : Int) == 48) = true
      · exact .inr ⟨g, h⟩
      · exact .inl (by simpa using g)
  clear hlead
  go_enter Tryd.func27, Tryd.ntmps27
  go_wp2
  go_step3
  rcases hz.out with hz | ⟨hz, hq⟩
  all_goals
    go_wp2_with (go_at_call 43; refine (cut_rest s _).mono ?_; rintro e w' ⟨rfl, rfl⟩; rw [hR.out, hP.out])
    clear hz hEm
    go_loopw [34] (fun i wr => ∃ k : Nat, k ≤ R.size ∧ (∀ j, j < k → dv (R.data.toList.getD j 0) < 16) ∧ i = .int .i64 k ∧ Blk wr (w.heap.size + 1) 62 (Dc (numD R.data.toList k) 4) ∧ Blk wr w.heap.size 24 #[.int .u64 0, .int .u64 0, .int .u64 0, .int .u64 0] ∧ Below w.heap.size w wr) (fun i _ => R.size - (intOf i).toNat)
    case atStart =>
      refine ⟨0, Nat.zero_le _, fun j hj => absurd hj (Nat.not_lt_zero _), rfl, ?_, bR0.alloc _, balloc (balloc (Below.refl _ _) _) _⟩
      have h := Blk.new (w.alloc (.cells #[.int .u64 0, .int .u64 0, .int .u64 0, .int .u64 0] 24)) 62 #[.int .u64 0, .int .u64 0, .int .u64 0, .int .u64 0, .int .i64 4]
      unfold Dc numD; simp only [lb_zero]; simpa using h
    case round =>
      obtain ⟨k, hk, hd, rfl, hs1, hr, hB⟩ := hrel
      have HD := Lib.hid hd
      have HS := Lib.hid hs1
      have HR2 := Lib.hid hr
      clear hd hs1 hr
      by_cases hlt : k < R.size
      · obtain ⟨b, hb⟩ : ∃ b, R[k]'hlt = b := ⟨_, rfl⟩
        have hg : Hid (R.data.toList.getD k 0 = b) := by
          show _ = _
          rw [← hb]; simp [List.getD, List.getElem?_eq_getElem (show k < R.data.toList.length by simpa using hlt)]; rfl
        have hbu : Hid ((b.toNat : Int).toNat.toUInt8 = b) := by show _ = _; simp
        have hx : Hid (Lib.indexByte [48, 49, 50, 51, 52, 53, 54, 55, 56, 57, 97, 98, 99, 100, 101, 102] b = _) := dv_eq b
        have hdv : dv b < 16 := by rw [← hg.out]; exact HA.out k hlt
        have hnext : Hid (∀ j, j < k + 1 → dv (R.data.toList.getD j 0) < 16) := fun j hj => by
          rcases Nat.lt_succ_iff_lt_or_eq.1 hj with h | h
          · exact HD.out j h
          · subst h; rw [hg.out]; exact hdv
        rw [if_pos hdv] at hx
        go_wp2_with (first | (go_at_call 44; refine (indexByte_any ⟨#[48, 49, 50, 51, 52, 53, 54, 55, 56, 57, 97, 98, 99, 100, 101, 102]⟩ _ _).mono ?_; rintro e w' ⟨rfl, rfl⟩; rw [hbu.out, hx.out]) | (go_at_call 42; refine (take_4 (numD R.data.toList k) (dv b) (w.heap.size + 1) (by unfold B64; omega) _ HS.out).mono ?_; rintro e w1 ⟨rfl, hs1, hb1⟩))
        go_roundw
        case rel => exact ⟨k + 1, by omega, hnext.out, by go_num, by rw [numD, hg.out]; exact hs1, HR2.out.kept hb1 (by simp), hB.grown hb1 hB.size (fun j e => by cases e; omega)⟩
        case measure => simp [intOf]; omega
      · obtain rfl : k = R.size := by omega
        have hs1 := HS.out
        have hr := HR2.out
        have c0 := (cell_of_row wr _ 0 _ _ _ hs1).trans (show (Dc (numD R.data.toList R.size) 4)[0]? = some (.int .u64 (lb (numD R.data.toList R.size) 0)) from rfl)
        have c1 := (cell_of_row wr _ 1 _ _ _ hs1).trans (show (Dc (numD R.data.toList R.size) 4)[1]? = some (.int .u64 (lb (numD R.data.toList R.size) 1)) from rfl)
        have c2 := (cell_of_row wr _ 2 _ _ _ hs1).trans (show (Dc (numD R.data.toList R.size) 4)[2]? = some (.int .u64 (lb (numD R.data.toList R.size) 2)) from rfl)
        have c3 := (cell_of_row wr _ 3 _ _ _ hs1).trans (show (Dc (numD R.data.toList R.size) 4)[3]? = some (.int .u64 (lb (numD R.data.toList R.size) 3)) from rfl)
        have r0 := cell_of_row wr _ 0 _ _ _ hr
        have r1 := cell_of_row wr _ 1 _ _ _ hr
        have r2 := cell_of_row wr _ 2 _ _ _ hr
        have r3 := cell_of_row wr _ 3 _ _ _ hr
        have f0 := frozen_of_row wr _ 0 _ _ hr
        have f1 := frozen_of_row wr _ 1 _ _ hr
        have f2 := frozen_of_row wr _ 2 _ _ hr
        have f3 := frozen_of_row wr _ 3 _ _ hr
        clear hs1 hr
        go_wp2
        rw [Exit.noGoto_ret]
        exact bodyPost_ret (v := .tuple #[W (numD R.data.toList R.size), .int .i64 0]) (by simp [results, Tryd.results27, go_sem, r0, r1, r2, r3]) rfl ⟨rfl, (((hB.setCell (p := ⟨w.heap.size, 0, none⟩) (Nat.le_refl _) _).setCell (p := ⟨w.heap.size, 1, none⟩) (Nat.le_refl _) _).setCell (p := ⟨w.heap.size, 2, none⟩) (Nat.le_refl _) _).setCell (p := ⟨w.heap.size, 3, none⟩) (Nat.le_refl _) _⟩

set_option maxHeartbeats 1000000 in
/-- Too many digits. -/
theorem parse_long (s R : ByteArray) (hs : 64 < R.size) (hm : R.size ≤ 9223372036854775807) (hR : Hid ((⟨(Lib.trimPrefix s.data.toList [48, 120]).toArray⟩ : ByteArray) = R)) (hP : Hid (Lib.hasPrefix s.data.toList [48, 120] = true)) (w : World) :
    Calls Tryd.prog 27 #[.string s] w fun e w' => e = .returned (.tuple #[W 0, .int .i64 3]) ∧ Below w.heap.size w w' := by
  rw [W_zero]
  have hEm : R.toList.isEmpty = false := by
    rw [ByteArray.toList_eq]; have : 0 < R.data.toList.length := by have : R.data.toList.length = R.size := by simp
                                                                    omega
    cases hd : R.data.toList with
    | nil => rw [hd] at this; simp at this
    | cons _ _ => rfl
  go_enter Tryd.func27, Tryd.ntmps27
  go_wp2
  go_step3
  go_wp2_with (go_at_call 43; refine (cut_rest s _).mono ?_; rintro e w' ⟨rfl, rfl⟩; rw [hR.out, hP.out])
  rw [Exit.noGoto_ret]
  exact bodyPost_ret (v := .tuple #[.agg #[.int .u64 0, .int .u64 0, .int .u64 0, .int .u64 0], .int .i64 3]) (by simp [results, Tryd.results27, go_sem]) rfl ⟨rfl, balloc (balloc (Below.refl _ _) _) _⟩

end Go.Proofs.YtimmcljpfpimbaaDoor
