/- Texts laid into one: Ph. -/
import Derived.Test.YtenepkgjdoddgaaGreatDoorSx
import Derived.Test.YtenepkgjdoddgaaGreatDoorSs
import Derived.Shelf.Strings.Repeat
import Derived.Shelf.Strings.Prefix
import Derived.Test.YtenepkgjdoddgaaGreatDoorPb
/- policy's laws: an address as a word, and the word's address: the program and the reference. -/
namespace Go.Proofs.YtenepkgjdoddgaaGreatDoor
open Go.RowKit Go.Shelf
attribute [local irreducible] lb
theorem numB_bv (l : List Nat) : ∀ n, n ≤ l.length → numB (fun k => l.getD k 0) n = bv (l.take n)
  | 0, _ => by simp [numB, bv]
  | n + 1, h => by
    show numB (fun k => l.getD k 0) n * 256 + l.getD n 0 = _
    rw [numB_bv l n (by omega), List.take_add_one, List.getElem?_eq_getElem (by omega), List.getD_eq_getElem?_getD, List.getElem?_eq_getElem (by omega)]
    exact (bv_snoc _ _).symm
theorem numB_ad {a : List Nat} (ha : Ad a) : numB (fun k => a.getD k 0) 20 = bv a := by
  rw [numB_bv a 20 (by rw [ha.1]; omega), List.take_of_length_le (by rw [ha.1]; omega)]
theorem ad_bytesAt {X : World} {b : Nat} {t : TypeId} {a : List Nat} (ha : Ad a) (h : Blk X b t (adC a)) : BytesAt X b 0 20 fun k => a.getD k 0 := fun k hk => by
  obtain ⟨x, h1, h2, h3⟩ := ha.cell h k hk
  rw [Nat.zero_add]
  refine ⟨?_, ?_⟩
  · show a.getD k 0 < 256
    rw [List.getD_eq_getElem?_getD, h1]; exact h2
  · show X.cell? _ = some (.int .u8 ((a.getD k 0 : Nat) : Int))
    rw [h3, List.getD_eq_getElem?_getD, h1]; rfl
theorem boxW (a : List Nat) (w : World) : ∃ X, (w.alloc (.cells (adC a) 29)).alloc (.cells #[.int .u64 0, .int .u64 0, .int .u64 0, .int .u64 0] 58) = X ∧ Blk X w.heap.size 29 (adC a) ∧ Blk X (w.heap.size + 1) 58 #[.int .u64 0, .int .u64 0, .int .u64 0, .int .u64 0] ∧ Below w.heap.size w X ∧ X.heap.size = w.heap.size + 2 :=
  ⟨_, rfl, (Blk.new w _ _).alloc _, Blk.newS w _ _ _, balloc (balloc (Below.refl _ _) _) _, by simp⟩
set_option maxRecDepth 100000 in
set_option maxHeartbeats 2000000 in
theorem nword_any (a : List Nat) (ha : Ad a) (w : World) :
    Calls Tryz.prog 32 #[.agg (adC a)] w fun e w' => e = .returned (W (bv a)) ∧ Below w.heap.size w w' := by
  obtain ⟨X, hX, b1, b2, hW, hS⟩ := boxW a w
  have HX := Lib.hid hX
  have hc := read_any w.heap.size 0 20 20 (fun k => a.getD k 0) X (by omega) b1.lt (ad_bytesAt ha b1)
  rw [numB_ad ha] at hc
  have HC := Lib.hid hc
  have H0 := Lib.hid (And.intro b2 (And.intro hW hS))
  clear hX b1 b2 hW hS hc ha
  go_enter Tryz.func32, Tryz.ntmps32
  go_wp2_with fail
  rw [HX.out]
  go_upto_region 2 with (first | (go_at_call 71; refine HC.out.mono ?_; rintro e w1 ⟨rfl, h1⟩; have hb := H0.out.1.keep h1; have H1 := Lib.hid (And.intro hb (H0.out.2.1.trans (h1.mono H0.out.2.1.size))); clear h1 hb) | fail)
  obtain ⟨Z, hZ⟩ : ∃ Z, w1.alloc (.cells #[.int .u64 (lb (bv a) 0), .int .u64 (lb (bv a) 1), .int .u64 (lb (bv a) 2), .int .u64 (lb (bv a) 3)] 58) = Z := ⟨_, rfl⟩
  have e1 : Blk Z (w.heap.size + 1) 58 #[.int .u64 0, .int .u64 0, .int .u64 0, .int .u64 0] := by rw [← hZ]; exact H1.out.1.alloc _
  have e2 : Blk Z w1.heap.size 58 #[.int .u64 (lb (bv a) 0), .int .u64 (lb (bv a) 1), .int .u64 (lb (bv a) 2), .int .u64 (lb (bv a) 3)] := by rw [← hZ]; exact Blk.new w1 _ _
  have hB : Below w.heap.size w Z := by rw [← hZ]; exact balloc H1.out.2 _
  rw [hZ]
  have r0 := cell_of_row Z _ 0 _ _ _ e1
  have r1 := cell_of_row Z _ 1 _ _ _ e1
  have r2 := cell_of_row Z _ 2 _ _ _ e1
  have r3 := cell_of_row Z _ 3 _ _ _ e1
  have f0 := frozen_of_row Z _ 0 _ _ e1
  have f1 := frozen_of_row Z _ 1 _ _ e1
  have f2 := frozen_of_row Z _ 2 _ _ e1
  have f3 := frozen_of_row Z _ 3 _ _ e1
  have k0 := cell_of_row Z _ 0 _ _ _ e2
  have k1 := cell_of_row Z _ 1 _ _ _ e2
  have k2 := cell_of_row Z _ 2 _ _ _ e2
  have k3 := cell_of_row Z _ 3 _ _ _ e2
  simp only [List.getElem?_toArray, List.getElem?_cons_zero, List.getElem?_cons_succ] at r0 r1 r2 r3 k0 k1 k2 k3
  clear e1 e2 hZ
  go_wp2_with fail
  exact bodyPost_ret (v := W (bv a)) (by simp [results, Tryz.results32, go_sem, r0, r1, r2, r3]) rfl ⟨rfl, (((hB.setCell (p := ⟨w.heap.size + 1, 0, none⟩) (by simp) _).setCell (p := ⟨w.heap.size + 1, 1, none⟩) (by simp) _).setCell (p := ⟨w.heap.size + 1, 2, none⟩) (by simp) _).setCell (p := ⟨w.heap.size + 1, 3, none⟩) (by simp) _⟩
end Go.Proofs.YtenepkgjdoddgaaGreatDoor

/- the shelf's contracts, laid at this program. -/
namespace Go.Proofs.YtenepkgjdoddgaaGreatDoor
open Go.RowKit Go.Shelf

def lays101_ren : Go.Shelf.Ren := ⟨fun | 101 => 67 | 208 => 104 | 206 => 124 | n => n, fun | 9 => 9 | 4 => 4 | 3 => 3 | n => n, fun | n => n⟩
theorem lays101 : Go.Proofs.Lays.n101 Tryz.prog lays101_ren where
  mixed := by kernel_rfl
  f101 := Tryz.func67.trans (congrArg some (by kernel_rfl))
  f206 := Tryz.func124.trans (congrArg some (by kernel_rfl))
  f208 := Tryz.func104.trans (congrArg some (by kernel_rfl))
  t3 := Tryz.underlying3
  a3 := Tryz.isAgg3
  z3 := Tryz.sizeOf3
  v3 := Tryz.zeroValue3
  t4 := Tryz.underlying4
  a4 := Tryz.isAgg4
  z4 := Tryz.sizeOf4
  v4 := Tryz.zeroValue4
  t9 := Tryz.underlying9
  a9 := Tryz.isAgg9
  z9 := Tryz.sizeOf9
  v9 := Tryz.zeroValue9
def lays105_ren : Go.Shelf.Ren := ⟨fun | 105 => 69 | 212 => 105 | 99 => 106 | 165 => 107 | 166 => 48 | 170 => 108 | 169 => 52 | 263 => 131 | 264 => 132 | 206 => 124 | 240 => 79 | 241 => 133 | 276 => 113 | 277 => 151 | n => n, fun | 9 => 9 | 3 => 3 | 4 => 4 | 20 => 20 | 0 => 0 | 46 => 163 | 109 => 164 | 5 => 5 | 72 => 88 | 76 => 91 | 51 => 30 | 146 => 185 | 53 => 22 | 148 => 187 | 70 => 85 | 37 => 86 | 75 => 90 | 127 => 133 | 164 => 173 | 80 => 96 | n => n, fun | n => n⟩
theorem lays105 : Go.Proofs.Lays.n105 Tryz.prog lays105_ren where
  mixed := by kernel_rfl
  f99 := Tryz.func106.trans (congrArg some (by kernel_rfl))
  f105 := Tryz.func69.trans (congrArg some (by kernel_rfl))
  f165 := Tryz.func107.trans (congrArg some (by kernel_rfl))
  f166 := Tryz.func48.trans (congrArg some (by kernel_rfl))
  f169 := Tryz.func52.trans (congrArg some (by kernel_rfl))
  f170 := Tryz.func108.trans (congrArg some (by kernel_rfl))
  f206 := Tryz.func124.trans (congrArg some (by kernel_rfl))
  f212 := Tryz.func105.trans (congrArg some (by kernel_rfl))
  f240 := Tryz.func79.trans (congrArg some (by kernel_rfl))
  f241 := Tryz.func133.trans (congrArg some (by kernel_rfl))
  f263 := Tryz.func131.trans (congrArg some (by kernel_rfl))
  f264 := Tryz.func132.trans (congrArg some (by kernel_rfl))
  f276 := Tryz.func113.trans (congrArg some (by kernel_rfl))
  f277 := Tryz.func151.trans (congrArg some (by kernel_rfl))
  t0 := Tryz.underlying0
  a0 := Tryz.isAgg0
  z0 := Tryz.sizeOf0
  v0 := Tryz.zeroValue0
  t3 := Tryz.underlying3
  a3 := Tryz.isAgg3
  z3 := Tryz.sizeOf3
  v3 := Tryz.zeroValue3
  t4 := Tryz.underlying4
  a4 := Tryz.isAgg4
  z4 := Tryz.sizeOf4
  v4 := Tryz.zeroValue4
  t5 := Tryz.underlying5
  a5 := Tryz.isAgg5
  z5 := Tryz.sizeOf5
  v5 := Tryz.zeroValue5
  t9 := Tryz.underlying9
  a9 := Tryz.isAgg9
  z9 := Tryz.sizeOf9
  v9 := Tryz.zeroValue9
  t20 := Tryz.underlying20
  a20 := Tryz.isAgg20
  z20 := Tryz.sizeOf20
  v20 := Tryz.zeroValue20
  t37 := Tryz.underlying86
  a37 := Tryz.isAgg86
  z37 := Tryz.sizeOf86
  v37 := Tryz.zeroValue86
  t46 := Tryz.underlying163
  a46 := Tryz.isAgg163
  z46 := Tryz.sizeOf163
  v46 := Tryz.zeroValue163
  t51 := Tryz.underlying30
  a51 := Tryz.isAgg30
  z51 := Tryz.sizeOf30
  v51 := Tryz.zeroValue30
  t53 := Tryz.underlying22
  a53 := Tryz.isAgg22
  z53 := Tryz.sizeOf22
  v53 := Tryz.zeroValue22
  t70 := Tryz.underlying85
  a70 := Tryz.isAgg85
  z70 := Tryz.sizeOf85
  v70 := Tryz.zeroValue85
  t72 := Tryz.underlying88
  a72 := Tryz.isAgg88
  z72 := Tryz.sizeOf88
  v72 := Tryz.zeroValue88
  t75 := Tryz.underlying90
  a75 := Tryz.isAgg90
  z75 := Tryz.sizeOf90
  v75 := Tryz.zeroValue90
  t76 := Tryz.underlying91
  a76 := Tryz.isAgg91
  z76 := Tryz.sizeOf91
  v76 := Tryz.zeroValue91
  t109 := Tryz.underlying164
  a109 := Tryz.isAgg164
  z109 := Tryz.sizeOf164
  v109 := Tryz.zeroValue164
  t127 := Tryz.underlying133
  a127 := Tryz.isAgg133
  z127 := Tryz.sizeOf133
  v127 := Tryz.zeroValue133
  t146 := Tryz.underlying185
  a146 := Tryz.isAgg185
  z146 := Tryz.sizeOf185
  v146 := Tryz.zeroValue185
  t148 := Tryz.underlying187
  a148 := Tryz.isAgg187
  z148 := Tryz.sizeOf187
  v148 := Tryz.zeroValue187
  t164 := Tryz.underlying173
  a164 := Tryz.isAgg173
  z164 := Tryz.sizeOf173
  v164 := Tryz.zeroValue173
theorem extra105 : Go.Proofs.Builder.Extra Tryz.prog lays105_ren where
  sizeBuilder := by kernel_rfl
  liesBuilder := by kernel_rfl
  t5 := Tryz.underlying5
  a5 := Tryz.isAgg5
  z5 := Tryz.sizeOf5
  v5 := Tryz.zeroValue5
  infoByte := by kernel_rfl
  cellsByte := by kernel_rfl
  sizeByte := by kernel_rfl
  neB5 := by decide
theorem repeat_0 (c : Nat) (hc : c ≤ 1000000) (w : World) : Calls Tryz.prog 69 #[.string ⟨#[48]⟩, .int .i64 c] w fun e w' => e = .returned (.string ⟨(Lib.repeatL [48] c).toArray⟩) ∧ Below w.heap.size w w' :=
  Go.Proofs.Any.strings_Repeat lays105 extra105 ⟨#[48]⟩ c w (by omega) (by rw [show (⟨#[48]⟩ : ByteArray).size = 1 from rfl]; omega)
theorem trimPrefix_any (s p : ByteArray) (w : World) : Calls Tryz.prog 67 #[.string s, .string p] w fun e w' => e = .returned (.string ⟨(Lib.trimPrefix s.data.toList p.data.toList).toArray⟩) ∧ w' = w :=
  Go.Proofs.Any.strings_TrimPrefix lays101 s p w
end Go.Proofs.YtenepkgjdoddgaaGreatDoor

/- policy's laws: addresses' bytes and digits in plain numbers; Name. -/
namespace Go.Proofs.YtenepkgjdoddgaaGreatDoor
open Go.RowKit Go.Shelf
attribute [local irreducible] lb
theorem bv_byte (a : List Nat) (h : ∀ x ∈ a, x < 256) (i : Nat) (x : Nat) (hx : a[i]? = some x) : byA (bv a) (a.length - 1 - i) = x := by
  have hi := (List.getElem?_eq_some_iff.1 hx).1
  have hx2 : x < 256 := h x (List.mem_of_getElem? hx)
  have e : a = a.take i ++ x :: a.drop (i + 1) := by
    conv => lhs; rw [← List.take_append_drop i a]
    rw [List.drop_eq_getElem_cons hi, (List.getElem?_eq_some_iff.1 hx).2]
  have hl : (a.drop (i + 1)).length = a.length - 1 - i := by rw [List.length_drop]; omega
  have hd := bv_lt (a.drop (i + 1)) fun z hz => h z (List.mem_of_mem_drop hz)
  rw [hl] at hd
  have hb : bv a = (bv (a.take i) * 256 + x) * 256 ^ (a.length - 1 - i) + bv (a.drop (i + 1)) := by
    conv => lhs; rw [e]
    rw [bv_app, bv_cons, List.length_cons, hl, Nat.pow_succ]
    grind
  unfold byA
  rw [hb, Nat.mul_comm (bv (a.take i) * 256 + x), Nat.mul_add_div (Nat.pos_of_ne_zero (fun g => by rw [g] at hd; omega)), Nat.div_eq_of_lt hd]
  omega
theorem ad_byte {a : List Nat} (ha : Ad a) (i x : Nat) (hx : a[i]? = some x) : byA (bv a) (19 - i) = x := by
  have h := bv_byte a ha.2 i x hx
  rwa [ha.1] at h
theorem low_bv {a : List Nat} (ha : Ad a) : lowA (bv a) = a := by
  refine List.ext_getElem? fun i => ?_
  unfold lowA
  rw [List.getElem?_map]
  by_cases hi : i < 20
  · rw [List.getElem?_range hi]
    have hx : a[i]? = some (a[i]'(by rw [ha.1]; exact hi)) := List.getElem?_eq_getElem _
    rw [hx]
    show some (byA (bv a) (19 - i)) = _
    rw [ad_byte ha i _ hx]
  · rw [List.getElem?_eq_none (by simp; omega), List.getElem?_eq_none (by rw [ha.1]; omega)]
    rfl
theorem flat2 {α : Type} (f : α → List UInt8) (n : Nat) : ∀ (l : List α) (_ : ∀ c ∈ l, (f c).length = n) (k : Nat) (c : α) (j : Nat) (v : UInt8), l[k]? = some c → (f c)[j]? = some v → (l.flatMap f)[k * n + j]? = some v
  | [], _, _, _, _, _, h, _ => by simp at h
  | a :: l, hl, 0, c, j, v, h, hv => by
    simp only [List.getElem?_cons_zero, Option.some.injEq] at h
    subst h
    rw [List.flatMap_cons, Nat.zero_mul, Nat.zero_add, List.getElem?_append_left (List.getElem?_eq_some_iff.1 hv).1]
    exact hv
  | a :: l, hl, k + 1, c, j, v, h, hv => by
    simp only [List.getElem?_cons_succ] at h
    have ha := hl a (by simp)
    rw [List.flatMap_cons, List.getElem?_append_right (by rw [ha, Nat.succ_mul]; omega), ha, show (k + 1) * n + j - n = k * n + j by rw [Nat.succ_mul]; omega]
    exact flat2 f n l (fun c hc => hl c (by simp [hc])) k c j v h hv
/-- The forty digits of an address. -/
def dgsA (a : List Nat) : List UInt8 := a.flatMap fun x => [hdg (x / 16), hdg (x % 16)]
theorem nmL_dgs (a : List Nat) : nmL a = 48 :: 120 :: dgsA a := by unfold nmL dgsA; rfl
theorem dgsA_len {a : List Nat} (ha : Ad a) : (dgsA a).length = 40 := by
  have h := nmL_len a
  rw [nmL_dgs, ha.1] at h
  simpa using h
theorem hdg_nib (d : Nat) : hdg d = UInt8.ofNat (dgN d) := by unfold hdg dgN; rfl
theorem hexL_bv {a : List Nat} (ha : Ad a) : hexL (bv a) = List.replicate 24 48 ++ dgsA a := by
  have hD := dgsA_len ha
  refine List.ext_getElem? fun p => ?_
  unfold hexL
  rw [List.getElem?_map]
  by_cases hp : p < 64
  · rw [List.getElem?_range hp]
    show some (UInt8.ofNat (dgN (nib (bv a) (63 - p)))) = _
    by_cases h24 : p < 24
    · rw [List.getElem?_append_left (by simpa using h24), List.getElem?_replicate, if_pos h24]
      have hb : bv a < 16 ^ (63 - p) := Nat.lt_of_lt_of_le ha.lt (by rw [show (256 : Nat) = 16 ^ 2 from rfl, ← Nat.pow_mul]; exact Nat.pow_le_pow_right (by omega) (by omega))
      have : nib (bv a) (63 - p) = 0 := by unfold nib; rw [Nat.div_eq_of_lt hb]
      rw [this]
      rfl
    · rw [List.getElem?_append_right (by simp; omega), List.length_replicate]
      obtain ⟨q, hq⟩ : ∃ q, p = 24 + q := ⟨p - 24, by omega⟩
      subst hq
      rw [show 24 + q - 24 = q by omega]
      have hi : q / 2 < 20 := by omega
      have hx : a[q / 2]? = some (a[q / 2]'(by rw [ha.1]; exact hi)) := List.getElem?_eq_getElem _
      obtain ⟨x, hxx⟩ : ∃ x, a[q / 2]'(by rw [ha.1]; exact hi) = x := ⟨_, rfl⟩
      rw [hxx] at hx
      have hb := ad_byte ha _ _ hx
      have hhi := nib_hi (bv a) (19 - q / 2)
      have hlo := nib_lo (bv a) (19 - q / 2)
      rw [hb] at hhi hlo
      unfold dgsA
      by_cases hpar : q % 2 = 0
      · have h := flat2 (fun x => [hdg (x / 16), hdg (x % 16)]) 2 a (fun _ _ => rfl) (q / 2) x 0 (hdg (x / 16)) hx rfl
        rw [show q / 2 * 2 + 0 = q by omega] at h
        rw [h, hhi, show 2 * (19 - q / 2) + 1 = 63 - (24 + q) by omega, hdg_nib]
      · have h := flat2 (fun x => [hdg (x / 16), hdg (x % 16)]) 2 a (fun _ _ => rfl) (q / 2) x 1 (hdg (x % 16)) hx rfl
        rw [show q / 2 * 2 + 1 = q by omega] at h
        rw [h, hlo, show 2 * (19 - q / 2) = 63 - (24 + q) by omega, hdg_nib]
  · rw [List.getElem?_eq_none (by simp; omega), List.getElem?_eq_none (by simp [hD]; omega)]
    rfl
theorem trim_rep (k : Nat) (l : List UInt8) : Lib.trimLeftB (List.replicate k 48 ++ l) 48 = Lib.trimLeftB l 48 := by
  induction k with
  | zero => rfl
  | succ k ih => rw [List.replicate_succ, List.cons_append]; unfold Lib.trimLeftB at ih ⊢; rw [List.dropWhile_cons_of_pos (by decide)]; exact ih
theorem trim_back : ∀ (l : List UInt8), List.replicate (l.length - (Lib.trimLeftB l 48).length) 48 ++ Lib.trimLeftB l 48 = l ∧ (Lib.trimLeftB l 48).length ≤ l.length
  | [] => ⟨rfl, Nat.le_refl _⟩
  | x :: l => by
    obtain ⟨h1, h2⟩ := trim_back l
    by_cases hx : (x == 48) = true
    · have e : Lib.trimLeftB (x :: l) 48 = Lib.trimLeftB l 48 := by unfold Lib.trimLeftB; rw [List.dropWhile_cons_of_pos (p := (· == 48)) hx]
      rw [e]
      refine ⟨?_, by rw [List.length_cons]; omega⟩
      rw [List.length_cons, show l.length + 1 - (Lib.trimLeftB l 48).length = (l.length - (Lib.trimLeftB l 48).length) + 1 by omega, List.replicate_succ, List.cons_append, h1, show x = 48 from by simpa using hx]
    · have e : Lib.trimLeftB (x :: l) 48 = x :: l := by unfold Lib.trimLeftB; rw [List.dropWhile_cons_of_neg (p := (· == 48)) hx]
      rw [e]
      exact ⟨by rw [Nat.sub_self]; rfl, Nat.le_refl _⟩
theorem repeat_rep : ∀ c, Lib.repeatL [48] c = List.replicate c 48
  | 0 => rfl
  | c + 1 => by rw [List.replicate_succ, ← repeat_rep c]; rfl
/-- What a name's digits are, noughts put back. -/
theorem name_back {a : List Nat} (ha : Ad a) : ∃ T : List UInt8, txtL (bv a) = 48 :: 120 :: T ∧ T.length ≤ 40 ∧ Lib.repeatL [48] (40 - T.length) ++ T = dgsA a := by
  have hD := dgsA_len ha
  obtain ⟨h1, h2⟩ := trim_back (dgsA a)
  refine ⟨_, rfl, ?_, ?_⟩
  · rw [hexL_bv ha, trim_rep]
    split
    · simp
    · omega
  · rw [hexL_bv ha, trim_rep, repeat_rep]
    split
    · rename_i he
      have he' : Lib.trimLeftB (dgsA a) 48 = [] := List.isEmpty_iff.1 he
      rw [he', hD] at h1
      rw [← h1]
      rfl
    · rw [hD] at h1
      exact h1
end Go.Proofs.YtenepkgjdoddgaaGreatDoor

/- policy's laws: Name of any address. -/
namespace Go.Proofs.YtenepkgjdoddgaaGreatDoor
open Go.RowKit Go.Shelf
attribute [local irreducible] lb
theorem app_ba (x y : List UInt8) : (⟨x.toArray⟩ : ByteArray) ++ ⟨y.toArray⟩ = ⟨(x ++ y).toArray⟩ := by
  apply ByteArray.ext
  rw [ByteArray.data_append]
  simp
theorem trim_0x (T : List UInt8) : Lib.trimPrefix (48 :: 120 :: T) [48, 120] = T := by simp [Lib.trimPrefix, Lib.hasPrefix]
/-- What Name lays together. -/
theorem name_parts {a : List Nat} (ha : Ad a) : ∃ (S R NM S1 : ByteArray) (m : Nat), m ≤ 40 ∧ S.size = m ∧
    (∀ Y, Calls Tryz.prog 68 #[W (bv a)] Y fun e w' => e = .returned (.string NM) ∧ Below Y.heap.size Y w') ∧
    (∀ Y, Calls Tryz.prog 67 #[.string NM, .string ⟨#[48, 120]⟩] Y fun e w' => e = .returned (.string S) ∧ w' = Y) ∧
    (∀ Y, Calls Tryz.prog 69 #[.string ⟨#[48]⟩, .int .i64 ((40 - m : Nat) : Int)] Y fun e w' => e = .returned (.string R) ∧ Below Y.heap.size Y w') ∧
    (⟨#[48, 120]⟩ : ByteArray) ++ R = S1 ∧ S1 ++ S = ⟨(nmL a).toArray⟩ ∧ S1.size = 42 - m ∧ R.size = 40 - m ∧ S.size = m := by
  obtain ⟨T, h1, h2, h3⟩ := name_back ha
  have hs : (⟨T.toArray⟩ : ByteArray).size = T.length := by simp [ByteArray.size]
  have hr : (⟨(Lib.repeatL [48] (40 - T.length)).toArray⟩ : ByteArray).size = 40 - T.length := by
    simp [ByteArray.size, Lib.repeatL_length]
  refine ⟨⟨T.toArray⟩, ⟨(Lib.repeatL [48] (40 - T.length)).toArray⟩, ⟨(txtL (bv a)).toArray⟩, _, T.length, h2, hs, fun Y => text_any (bv a) Y, fun Y => ?_, fun Y => repeat_0 (40 - T.length) (by omega) Y, rfl, ?_, ?_, hr, hs⟩
  · have h := trimPrefix_any ⟨(txtL (bv a)).toArray⟩ ⟨#[48, 120]⟩ Y
    rw [h1] at h ⊢
    rwa [show (⟨(48 :: 120 :: T).toArray⟩ : ByteArray).data.toList = 48 :: 120 :: T from rfl, show (⟨#[48, 120]⟩ : ByteArray).data.toList = [48, 120] from rfl, trim_0x] at h
  · rw [show (⟨#[48, 120]⟩ : ByteArray) = ⟨[48, 120].toArray⟩ from rfl, app_ba, app_ba, nmL_dgs, ← h3]
    rfl
  · rw [ByteArray.size_append, hr]
    show 2 + (40 - T.length) = _
    omega
set_option maxRecDepth 100000 in
set_option maxHeartbeats 4000000 in
theorem nname_any (a : List Nat) (ha : Ad a) (w : World) :
    Calls Tryz.prog 28 #[.agg (adC a)] w fun e w' => e = .returned (.string ⟨(nmL a).toArray⟩) ∧ Below w.heap.size w w' := by
  obtain ⟨S, R, NM, S1, m, hm, hS, hT, hP, hR, e1, e2, z1, z2, z3⟩ := name_parts ha
  obtain ⟨X, hX⟩ : ∃ X, w.alloc (.cells (adC a) 29) = X := ⟨_, rfl⟩
  have b1 : Blk X w.heap.size 29 (adC a) := by rw [← hX]; exact Blk.new w _ _
  have hW : Below w.heap.size w X := by rw [← hX]; exact balloc (Below.refl _ _) _
  have HX := Lib.hid hX
  have HA := Lib.hid ha
  have H0 := Lib.hid (And.intro b1 hW)
  have HNW := Lib.hid (fun Y => nword_any a ha Y)
  have HT := Lib.hid hT
  have HP := Lib.hid hP
  have HR := Lib.hid hR
  obtain ⟨Q, hQ⟩ : ∃ Q, (⟨(nmL a).toArray⟩ : ByteArray) = Q := ⟨_, rfl⟩
  rw [hQ] at e2 ⊢
  have g1 : (S.size : Int) = (m : Int) := by rw [hS]
  have g2 : IntKind.i64.wrap (40 - (m : Int)) = ((40 - m : Nat) : Int) := by
    rw [show 40 - (m : Int) = ((40 - m : Nat) : Int) by omega]
    exact IntWalk.i64_in _ (by omega)
  clear hX b1 hW ha hT hP hR hQ
  go_enter Tryz.func28, Tryz.ntmps28
  go_upto_region 1 with fail
  rw [HX.out]
  refine wp_region_lit ?_
  refine wpList_load_midA rfl 29 (.tmp 1) rfl w.heap.size 0 rfl (adC a) _ H0.out.1.range und_addr rfl (by rw [info_addr, adC_size HA.out]) ?_
  go_wp2_with (first
    | (go_at_call 32; refine (HNW.out _).mono ?_; rintro e w1 ⟨rfl, h1⟩; have H1 := Lib.hid (H0.out.2.trans (h1.mono H0.out.2.size)); clear h1)
    | (go_at_call 68; refine (HT.out _).mono ?_; rintro e w2 ⟨rfl, h1⟩; have H2 := Lib.hid (H1.out.trans (h1.mono H1.out.size)); clear h1)
    | (go_at_call 67; refine (HP.out _).mono ?_; rintro e w' ⟨rfl, rfl⟩)
    | (go_at_call 69; refine (HR.out _).mono ?_; rintro e w3 ⟨rfl, h1⟩; have H3 := Lib.hid (H2.out.trans (h1.mono H2.out.size)); clear h1)
    | fail)
  go_ret
  exact ⟨rfl, H3.out⟩
end Go.Proofs.YtenepkgjdoddgaaGreatDoor

/- policy's laws: the reference's Of. -/
namespace Go.Proofs.YtenepkgjdoddgaaGreatDoor
open Go.RowKit Go.Shelf
attribute [local irreducible] lb
/-- The first k of a word's last twenty bytes, noughts behind. -/
def loC (n k : Nat) : Array Value := ((List.range 20).map fun p => Value.int .u8 (if p < k then ((byA n (19 - p) : Nat) : Int) else 0)).toArray
attribute [irreducible] loC
end Go.Proofs.YtenepkgjdoddgaaGreatDoor

