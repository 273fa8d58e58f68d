/- Texts laid into one: Pk. -/
import Derived.Test.YtenepkgjdoddgaaGreatDoorPh
import Derived.Shelf.Strings.OnBuilder
import Derived.Shelf.Strconv.Itoa1
import Derived.Shelf.Strconv.Itoa2
import Derived.Lib.ItoaMem
import Derived.Lib.ItoaLen
import Derived.Lib.AppendIntMem
/- the shelf's contracts, laid at this program. -/
namespace Go.Proofs.YtenepkgjdoddgaaGreatDoor
open Go.RowKit Go.Shelf

def lays156_ren : Go.Shelf.Ren := ⟨fun | 156 => 80 | 165 => 107 | 166 => 48 | 169 => 52 | 240 => 79 | 241 => 133 | 276 => 113 | 277 => 151 | n => n, fun | 31 => 45 | 9 => 9 | 3 => 3 | 4 => 4 | 0 => 0 | 20 => 20 | 72 => 88 | 76 => 91 | 70 => 85 | 37 => 86 | 75 => 90 | 127 => 133 | 164 => 173 | 5 => 5 | 80 => 96 | n => n, fun | n => n⟩
theorem lays156 : Go.Proofs.Lays.n156 Tryz.prog lays156_ren where
  mixed := by kernel_rfl
  f156 := Tryz.func80.trans (congrArg some (by kernel_rfl))
  f165 := Tryz.func107.trans (congrArg some (by kernel_rfl))
  f166 := Tryz.func48.trans (congrArg some (by kernel_rfl))
  f169 := Tryz.func52.trans (congrArg some (by kernel_rfl))
  f240 := Tryz.func79.trans (congrArg some (by kernel_rfl))
  f241 := Tryz.func133.trans (congrArg some (by kernel_rfl))
  f276 := Tryz.func113.trans (congrArg some (by kernel_rfl))
  f277 := Tryz.func151.trans (congrArg some (by kernel_rfl))
  t0 := Tryz.underlying0
  a0 := Tryz.isAgg0
  z0 := Tryz.sizeOf0
  v0 := Tryz.zeroValue0
  t3 := Tryz.underlying3
  a3 := Tryz.isAgg3
  z3 := Tryz.sizeOf3
  v3 := Tryz.zeroValue3
  t4 := Tryz.underlying4
  a4 := Tryz.isAgg4
  z4 := Tryz.sizeOf4
  v4 := Tryz.zeroValue4
  t9 := Tryz.underlying9
  a9 := Tryz.isAgg9
  z9 := Tryz.sizeOf9
  v9 := Tryz.zeroValue9
  t20 := Tryz.underlying20
  a20 := Tryz.isAgg20
  z20 := Tryz.sizeOf20
  v20 := Tryz.zeroValue20
  t31 := Tryz.underlying45
  a31 := Tryz.isAgg45
  z31 := Tryz.sizeOf45
  v31 := Tryz.zeroValue45
  t37 := Tryz.underlying86
  a37 := Tryz.isAgg86
  z37 := Tryz.sizeOf86
  v37 := Tryz.zeroValue86
  t70 := Tryz.underlying85
  a70 := Tryz.isAgg85
  z70 := Tryz.sizeOf85
  v70 := Tryz.zeroValue85
  t72 := Tryz.underlying88
  a72 := Tryz.isAgg88
  z72 := Tryz.sizeOf88
  v72 := Tryz.zeroValue88
  t75 := Tryz.underlying90
  a75 := Tryz.isAgg90
  z75 := Tryz.sizeOf90
  v75 := Tryz.zeroValue90
  t76 := Tryz.underlying91
  a76 := Tryz.isAgg91
  z76 := Tryz.sizeOf91
  v76 := Tryz.zeroValue91
  t127 := Tryz.underlying133
  a127 := Tryz.isAgg133
  z127 := Tryz.sizeOf133
  v127 := Tryz.zeroValue133
  t164 := Tryz.underlying173
  a164 := Tryz.isAgg173
  z164 := Tryz.sizeOf173
  v164 := Tryz.zeroValue173
def lays283_ren : Go.Shelf.Ren := ⟨fun | 283 => 135 | n => n, fun | 3 => 3 | 9 => 9 | 4 => 4 | n => n, fun | n => n⟩
theorem lays283 : Go.Proofs.Lays.n283 Tryz.prog lays283_ren where
  mixed := by kernel_rfl
  f283 := Tryz.func135.trans (congrArg some (by kernel_rfl))
  t3 := Tryz.underlying3
  a3 := Tryz.isAgg3
  z3 := Tryz.sizeOf3
  v3 := Tryz.zeroValue3
  t4 := Tryz.underlying4
  a4 := Tryz.isAgg4
  z4 := Tryz.sizeOf4
  v4 := Tryz.zeroValue4
  t9 := Tryz.underlying9
  a9 := Tryz.isAgg9
  z9 := Tryz.sizeOf9
  v9 := Tryz.zeroValue9
def lays284_ren : Go.Shelf.Ren := ⟨fun | 284 => 136 | 129 => 81 | 317 => 152 | 318 => 153 | n => n, fun | 53 => 22 | 3 => 3 | 212 => 206 | 0 => 0 | 4 => 4 | 46 => 163 | 5 => 5 | 9 => 9 | n => n, fun | 17 => 2 | n => n⟩
theorem lays284 : Go.Proofs.LaysM.n284 Tryz.prog lays284_ren where
  mixed := by kernel_rfl
  f129 := Tryz.func81.trans (congrArg some (by kernel_rfl))
  f284 := Tryz.func136.trans (congrArg some (by kernel_rfl))
  f317 := Tryz.func152.trans (congrArg some (by kernel_rfl))
  f318 := Tryz.func153.trans (congrArg some (by kernel_rfl))
  t0 := Tryz.underlying0
  a0 := Tryz.isAgg0
  z0 := Tryz.sizeOf0
  v0 := Tryz.zeroValue0
  t3 := Tryz.underlying3
  a3 := Tryz.isAgg3
  z3 := Tryz.sizeOf3
  v3 := Tryz.zeroValue3
  t4 := Tryz.underlying4
  a4 := Tryz.isAgg4
  z4 := Tryz.sizeOf4
  v4 := Tryz.zeroValue4
  t5 := Tryz.underlying5
  a5 := Tryz.isAgg5
  z5 := Tryz.sizeOf5
  v5 := Tryz.zeroValue5
  t9 := Tryz.underlying9
  a9 := Tryz.isAgg9
  z9 := Tryz.sizeOf9
  v9 := Tryz.zeroValue9
  t46 := Tryz.underlying163
  a46 := Tryz.isAgg163
  z46 := Tryz.sizeOf163
  v46 := Tryz.zeroValue163
  t53 := Tryz.underlying22
  a53 := Tryz.isAgg22
  z53 := Tryz.sizeOf22
  v53 := Tryz.zeroValue22
  t212 := Tryz.underlying206
  a212 := Tryz.isAgg206
  z212 := Tryz.sizeOf206
  v212 := Tryz.zeroValue206
  g17 := by kernel_rfl
  i0 := by kernel_rfl
  i3 := by kernel_rfl
  i4 := by kernel_rfl
  i5 := by kernel_rfl
  i9 := by kernel_rfl
  i46 := by kernel_rfl
  i53 := by kernel_rfl
  i212 := by kernel_rfl
  m17 := by kernel_rfl
def lays285_ren : Go.Shelf.Ren := ⟨fun | 285 => 137 | n => n, fun | 37 => 86 | 53 => 22 | 3 => 3 | 4 => 4 | 51 => 30 | 9 => 9 | 5 => 5 | 0 => 0 | n => n, fun | n => n⟩
theorem lays285 : Go.Proofs.Lays.n285 Tryz.prog lays285_ren where
  mixed := by kernel_rfl
  f285 := Tryz.func137.trans (congrArg some (by kernel_rfl))
  t0 := Tryz.underlying0
  a0 := Tryz.isAgg0
  z0 := Tryz.sizeOf0
  v0 := Tryz.zeroValue0
  t3 := Tryz.underlying3
  a3 := Tryz.isAgg3
  z3 := Tryz.sizeOf3
  v3 := Tryz.zeroValue3
  t4 := Tryz.underlying4
  a4 := Tryz.isAgg4
  z4 := Tryz.sizeOf4
  v4 := Tryz.zeroValue4
  t5 := Tryz.underlying5
  a5 := Tryz.isAgg5
  z5 := Tryz.sizeOf5
  v5 := Tryz.zeroValue5
  t9 := Tryz.underlying9
  a9 := Tryz.isAgg9
  z9 := Tryz.sizeOf9
  v9 := Tryz.zeroValue9
  t37 := Tryz.underlying86
  a37 := Tryz.isAgg86
  z37 := Tryz.sizeOf86
  v37 := Tryz.zeroValue86
  t51 := Tryz.underlying30
  a51 := Tryz.isAgg30
  z51 := Tryz.sizeOf30
  v51 := Tryz.zeroValue30
  t53 := Tryz.underlying22
  a53 := Tryz.isAgg22
  z53 := Tryz.sizeOf22
  v53 := Tryz.zeroValue22
theorem extra156 : Go.Proofs.Builder.Extra Tryz.prog lays156_ren where
  sizeBuilder := by kernel_rfl
  liesBuilder := by kernel_rfl
  t5 := Tryz.underlying5
  a5 := Tryz.isAgg5
  z5 := Tryz.sizeOf5
  v5 := Tryz.zeroValue5
  infoByte := by kernel_rfl
  cellsByte := by kernel_rfl
  sizeByte := by kernel_rfl
  neB5 := by decide
theorem join_sp (bk o c : Nat) (xs : List ByteArray) (sep : ByteArray) (w : World) (hcells : ∀ (j : Nat) x, xs[j]? = some x → w.cell? ⟨bk, o + j, none⟩ = some (.string x)) (hbk : bk < w.heap.size) (hN : xs.length ≤ 100) (hcap : xs.length ≤ c)
    (hlen : (Lib.join (xs.map (·.data.toList)) sep.data.toList).length ≤ 100000) :
    Calls Tryz.prog 80 #[.slice (some ⟨bk, o, none⟩) xs.length c, .string sep] w fun e w' => e = .returned (.string ⟨(Lib.join (xs.map (·.data.toList)) sep.data.toList).toArray⟩) ∧ Below w.heap.size w w' :=
  Go.Proofs.Any.strings_Join lays156 extra156 bk o c xs sep w hcells hbk (by omega) hcap (by omega)
end Go.Proofs.YtenepkgjdoddgaaGreatDoor

/- policy's laws: a line of words. -/
namespace Go.Proofs.YtenepkgjdoddgaaGreatDoor
open Go.RowKit Go.Shelf

set_option maxRecDepth 100000 in
theorem pline_any (bk o c : Nat) (xs : List ByteArray) (J : ByteArray) (m : Nat) (w : World) (hcells : ∀ (j : Nat) x, xs[j]? = some x → w.cell? ⟨bk, o + j, none⟩ = some (.string x)) (hbk : bk < w.heap.size) (hN : xs.length ≤ 100) (hcap : xs.length ≤ c)
    (hJ : (⟨(Lib.join (xs.map (·.data.toList)) [32]).toArray⟩ : ByteArray) = J) (hz : J.size ≤ 100000) (hm : xs.length = m) :
    Calls Tryz.prog 49 #[.slice (some ⟨bk, o, none⟩) m c] w fun e w' => e = .returned (.string (J ++ ⟨#[10]⟩)) ∧ Below w.heap.size w w' := by
  have hl : (Lib.join (xs.map (·.data.toList)) [32]).length ≤ 100000 := by
    rw [← hJ] at hz
    simpa [ByteArray.size] using hz
  have h := join_sp bk o c xs ⟨#[32]⟩ w hcells hbk hN hcap hl
  rw [show (⟨#[32]⟩ : ByteArray).data.toList = [32] from rfl, hJ, hm] at h
  have H := Lib.hid h
  clear h hJ hl hcells hbk hN hcap hm
  go_enter Tryz.func49, Tryz.ntmps49
  go_wp2_with (first | (go_at_call 80; refine H.out.mono ?_; rintro e w1 ⟨rfl, h1⟩; have H1 := Lib.hid h1; clear h1) | fail)
  go_ret
  exact ⟨rfl, H1.out⟩
end Go.Proofs.YtenepkgjdoddgaaGreatDoor

/- policy's laws: the text of any number. -/
namespace Go.Proofs.YtenepkgjdoddgaaGreatDoor
open Go.RowKit Go.Shelf

/-- The table of powers of ten lies as the library's text lays it. -/
def T10 (w : World) : Prop := Lib.TabIs Tryz.prog w "internal/strconv.uint64pow10" .u64 Lib.pow10Tab
theorem named10 : Tryz.prog.globalNamed "internal/strconv.uint64pow10" = some 2 := by kernel_rfl
theorem T10.keep {w w' : World} (h : T10 w) (k : Below w.heap.size w w') : T10 w' := by
  unfold T10 Lib.TabIs World.var? at *
  rw [named10] at h ⊢
  simp only [Option.bind_some] at h ⊢
  have hlt : 2 < w.heap.size := by
    refine Classical.byContradiction fun hc => ?_
    rw [Array.getElem?_eq_none (by omega)] at h
    cases h
  rw [k.block _ hlt]
  exact h
theorem holds_zero0 (w : World) (T : TypeId) (nd : Nat) (hs : nd ≤ 24) : Go.Sort.Holds (fun (b : UInt8) => Value.int .u8 (b.toNat : Int)) (w.alloc (.cells Lib.zeros24 T)) w.heap.size 0 (Array.replicate nd (0 : UInt8)) := fun j hj => by
  have hj' : j < nd := by simpa using hj
  refine ⟨?_, World.frozen?_alloc_new _ _ _ _⟩
  rw [World.cell?_alloc_new, Lib.zeros24_at _ (by omega), getElem!_pos _ j hj]
  simp
theorem fin0 (w : World) (o : Obj) (dk : Array UInt8) (k : Nat) : Below w.heap.size w ((Go.Sort.putRow (fun (b : UInt8) => Value.int .u8 (b.toNat : Int)) (w.alloc o) w.heap.size 0 dk).drewN k) := by
  rw [Go.Sort.alloc_eq_grow]
  obtain ⟨os', _, e⟩ := Go.Sort.putRow_grow_new (fun (b : UInt8) => Value.int .u8 (b.toNat : Int)) w #[o] w.heap.size 0 dk (Nat.le_refl _)
  rw [e]
  exact Lib.below_grow w.heap.size w (Nat.le_refl _) k os'
set_option maxRecDepth 100000 in
set_option maxHeartbeats 6400000 in
theorem fmtU_any (u : Nat) (hu64 : u < 18446744073709551616) (w : World) (htab : T10 w) :
    Calls Tryz.prog 117 #[.int .u64 u, .int .i64 10] w fun e w' => e = .returned (.string ⟨(Lib.decDigits u).toArray⟩) ∧ Below w.heap.size w w' := by
  by_cases hs : u < 100
  · have g1 : (u : Int) < 100 := by omega
    have g2 : wrap64 (u : Int) = (u : Int) := IntWalk.wrap64_in _ (by omega)
    have hS := Any.internal_strconv_small lays283 u hs
    have HS := Lib.hid hS
    clear hS
    go_enter Tryz.func117, Tryz.ntmps117
    go_wp2_with (first | (go_at_call 135; refine (HS.out _).mono ?_; rintro e w' ⟨rfl, rfl⟩) | fail)
    go_ret
    exact ⟨rfl, Below.refl _ _⟩
  · have hu1 : 1 ≤ u := by omega
    have g1 : ¬ (u : Int) < 100 := by omega
    have hnd20 : Lib.nDigits u ≤ 20 := Lib.nDigits_le20 u hu64
    have hal : Tryz.prog.arrayLen 191 = 24 := by kernel_rfl
    have hsl1 : ∀ W, (Instr.sliceAt 191 (.pointer (some ⟨w.heap.size, 0, none⟩)) none (some (.int .i64 (Lib.nDigits u : Int))) none).run Tryz.prog W = .ok (.slice (some ⟨w.heap.size, 0, none⟩) (Lib.nDigits u) 24) W := fun W => by
      rw [run_sliceAt_array_h W 191 ⟨w.heap.size, 0, none⟩ (by simp [Program.arrayLen, Program.elem]) .i64 (Lib.nDigits u : Int) (by omega) (by rw [hal]; omega)]
      go_simp
    have hH0 := holds_zero0 w 191 (Lib.nDigits u) (by omega)
    have hfmt := Any.internal_strconv_formatBase10 lays285 w.heap.size 0 24 u (Array.replicate (Lib.nDigits u) 0) (w.alloc (.cells Lib.zeros24 191)) hH0 (by rw [Array.size_replicate]; exact Lib.lt_pow_nDigits u) hu64 (by rw [Array.size_replicate]; omega)
    rw [Array.size_replicate] at hfmt
    have HH0 := Lib.hid hH0
    have HF := Lib.hid hfmt
    have HD := Lib.hid (Any.internal_strconv_numDigits lays284 u hu1 hu64 _ (Lib.tabIs_alloc htab (.cells Lib.zeros24 191)))
    clear hH0 hal hfmt htab
    go_enter Tryz.func117, Tryz.ntmps117
    go_wp2_with (first | (go_at_call 136; refine HD.out.mono ?_; rintro e w' ⟨rfl, rfl⟩))
    go_at_call 137
    refine HF.out.mono ?_
    rintro e w' ⟨rfl, k, v', dk, rfl, hF⟩
    have hcv : (convert 86 9 (.slice (some ⟨w.heap.size, 0, none⟩) (Lib.nDigits u) 24)).run Tryz.prog ((Go.Sort.putRow (fun (b : UInt8) => Value.int .u8 (b.toNat : Int)) (w.alloc (.cells Lib.zeros24 191)) w.heap.size 0 dk).drewN k) = .ok (.string ⟨(Lib.decDigits u).toArray⟩) ((Go.Sort.putRow (fun (b : UInt8) => Value.int .u8 (b.toNat : Int)) (w.alloc (.cells Lib.zeros24 191)) w.heap.size 0 dk).drewN k) := by
      have h := run_convert_bytes_back (P := Tryz.prog) ((Go.Sort.putRow (fun (b : UInt8) => Value.int .u8 (b.toNat : Int)) (w.alloc (.cells Lib.zeros24 191)) w.heap.size 0 dk).drewN k) 86 9 5 ⟨w.heap.size, 0, none⟩ 24 (Lib.decDigits u) (by kernel_rfl) (by kernel_rfl) (by kernel_rfl) (fun j hj => by
        rw [Lib.row_is_numeral hF j hj, Lib.add_plain, World.cell?_drewN]
        exact Go.Sort.cell?_putRow (fun (b : UInt8) => Value.int .u8 (b.toNat : Int)) _ w.heap.size 0 _ dk HH0.out (by rw [hF.size, Array.size_replicate]) j (by rw [hF.size]; rw [Lib.decDigits_length] at hj; exact hj))
      rw [Lib.decDigits_length] at h
      exact h
    go_wp2
    go_ret
    exact ⟨rfl, fin0 w _ dk k⟩

set_option maxRecDepth 100000 in
set_option maxHeartbeats 1000000 in
theorem number_any (n : Nat) (hn : n < 4294967296) (w : World) (hT : T10 w) :
    Calls Tryz.prog 51 #[.int .u32 (n : Nat)] w fun e w' => e = .returned (.string ⟨(Lib.decDigits n).toArray⟩) ∧ Below w.heap.size w w' := by
  have g1 : IntKind.u64.wrap (n : Int) = (n : Int) := IntWalk.u64_in _ (by omega)
  have HI := Lib.hid (fmtU_any n (by omega) w hT)
  have hF : Calls Tryz.prog 85 #[.int .u64 n, .int .i64 10] w fun e w' => e = .returned (.string ⟨(Lib.decDigits n).toArray⟩) ∧ Below w.heap.size w w' := by
    go_enter Tryz.func85, Tryz.ntmps85
    go_wp2_with (first | (go_at_call 117; refine HI.out.mono ?_; rintro e w' ⟨rfl, h⟩; have H := Lib.hid h; clear h) | fail)
    go_ret
    exact ⟨rfl, H.out⟩
  have HF := Lib.hid hF
  clear hF
  go_enter Tryz.func51, Tryz.ntmps51
  go_wp2_with (first | (go_at_call 85; refine HF.out.mono ?_; rintro e w' ⟨rfl, h⟩; have H := Lib.hid h; clear h) | fail)
  go_ret
  exact ⟨rfl, H.out⟩
end Go.Proofs.YtenepkgjdoddgaaGreatDoor

/- policy's laws: a policy's text in plain numbers; unlike policies have unlike texts. -/
namespace Go.Proofs.YtenepkgjdoddgaaGreatDoor
open Go.RowKit Go.Shelf

/-- The lines of a policy, and its text. -/
def lnD (d : Nat) : List UInt8 := [100, 101, 102, 97, 117, 108, 116] ++ 32 :: txL d
def lnC (c : List Nat × Nat) : List UInt8 := [99, 108, 101, 97, 114] ++ 32 :: (nmL c.1 ++ 32 :: txL c.2)
def lnR (r : List Nat × Nat × Nat) : List UInt8 := [114, 101, 108, 101, 97, 115, 101] ++ 32 :: (nmL r.1 ++ 32 :: (Lib.decDigits r.2.1 ++ 32 :: txL r.2.2))
def lnsP (d : Nat) (cs : List (List Nat × Nat)) (rs : List (List Nat × Nat × Nat)) : List (List UInt8) := lnD d :: (cs.map lnC ++ rs.map lnR)
def endL (l : List UInt8) : List UInt8 := l ++ [10]
def txP (d : Nat) (cs : List (List Nat × Nat)) (rs : List (List Nat × Nat × Nat)) : List UInt8 := (lnsP d cs rs).flatMap endL

theorem decDigits_len {n : Nat} (h : n < 4294967296) : 1 ≤ (Lib.decDigits n).length ∧ (Lib.decDigits n).length ≤ 20 := by
  rw [Lib.decDigits_length]
  exact ⟨Lib.nDigits_pos n, Lib.nDigits_le20 n (by omega)⟩
theorem lnD_len (d : Nat) : (lnD d).length ≤ 200 := by
  have := txL_len d
  simp [lnD]; omega
theorem lnC_len {c : List Nat × Nat} (h : Ad c.1) : (lnC c).length ≤ 241 := by
  have := txL_len c.2
  have h2 := nmL_len c.1
  rw [h.1] at h2
  simp [lnC]; omega
theorem lnR_len {r : List Nat × Nat × Nat} (h : Ad r.1) (he : r.2.1 < 4294967296) : (lnR r).length ≤ 264 := by
  have := txL_len r.2.2
  have h2 := nmL_len r.1
  have h3 := decDigits_len he
  rw [h.1] at h2
  simp [lnR]; omega

/-! Bytes of words. -/
abbrev okB (x : UInt8) : Prop := x ≠ 10 ∧ x ≠ 32
theorem okB_dig {k : Nat} (h : k < 10) : okB (UInt8.ofNat (48 + k)) := by
  have : ∀ k : Fin 10, okB (UInt8.ofNat (48 + k.val)) := by decide +kernel
  exact this ⟨k, h⟩
theorem okB_dec {k : Nat} (h : k < 64) : ∀ x ∈ dec k, okB x := by
  intro x hx
  unfold dec at hx
  split at hx
  · simp only [List.mem_singleton] at hx; subst hx; exact okB_dig (by omega)
  · simp only [List.mem_cons, List.not_mem_nil, or_false] at hx
    rcases hx with rfl | rfl
    · exact okB_dig (by omega)
    · exact okB_dig (by omega)
theorem okB_jn : ∀ (l : List Nat), (∀ y ∈ l, y < 64) → ∀ x ∈ jn l, okB x := by
  intro l
  induction l using snoc_ind with
  | h0 => intro _ x hx; simp [jn] at hx
  | h1 l y ih =>
    intro h x hx
    by_cases hl : l = []
    · subst hl
      simp only [List.nil_append, jn, List.flatMap_nil, List.append_nil] at hx
      exact okB_dec (h y (by simp)) x hx
    · rw [jn_snoc l y hl] at hx
      rcases List.mem_append.1 hx with h1 | h1
      · exact ih (fun z hz => h z (by simp [hz])) x h1
      · rcases List.mem_cons.1 h1 with rfl | h2
        · exact ⟨by decide, by decide⟩
        · exact okB_dec (h y (by simp)) x h2
theorem okB_txL (a : Nat) : ∀ x ∈ txL a, okB x := by
  intro x hx
  unfold txL at hx
  split at hx
  · simp at hx; subst hx; exact ⟨by decide, by decide⟩
  · exact okB_jn _ (fun y hy => ((eb_mem a 64 y).1 hy).1) x hx
theorem okB_dd (n : Nat) : ∀ x ∈ Lib.decDigits n, okB x := by
  induction n using Nat.strongRecOn with
  | _ u ih =>
    intro x hx
    rw [Lib.decDigits] at hx
    split at hx
    · simp only [List.mem_singleton] at hx; subst hx; exact okB_dig (by omega)
    · rcases List.mem_append.1 hx with h1 | h1
      · exact ih (u / 10) (by omega) x h1
      · simp only [List.mem_singleton] at h1; subst h1; exact okB_dig (by omega)
theorem okB_hdg {d : Nat} (h : d < 16) : okB (hdg d) := by
  have : ∀ k : Fin 16, okB (hdg k.val) := by decide +kernel
  exact this ⟨d, h⟩
theorem okB_nm {a : List Nat} (h : ∀ x ∈ a, x < 256) : ∀ x ∈ nmL a, okB x := by
  intro x hx
  unfold nmL at hx
  rcases List.mem_append.1 hx with h1 | h1
  · simp at h1
    rcases h1 with rfl | rfl <;> exact ⟨by decide, by decide⟩
  · obtain ⟨y, hy, h2⟩ := List.mem_flatMap.1 h1
    have := h y hy
    simp only [List.mem_cons, List.not_mem_nil, or_false] at h2
    rcases h2 with rfl | rfl
    · exact okB_hdg (by omega)
    · exact okB_hdg (by omega)
theorem no_end_D (d : Nat) : (10 : UInt8) ∉ lnD d := by
  intro h
  unfold lnD at h
  rcases List.mem_append.1 h with h1 | h1
  · revert h1; decide
  · rcases List.mem_cons.1 h1 with h2 | h2
    · revert h2; decide
    · exact (okB_txL d _ h2).1 rfl
theorem no_end_C {c : List Nat × Nat} (hc : Ad c.1) : (10 : UInt8) ∉ lnC c := by
  intro h
  unfold lnC at h
  rcases List.mem_append.1 h with h1 | h1
  · revert h1; decide
  · rcases List.mem_cons.1 h1 with h2 | h2
    · revert h2; decide
    · rcases List.mem_append.1 h2 with h3 | h3
      · exact (okB_nm hc.2 _ h3).1 rfl
      · rcases List.mem_cons.1 h3 with h4 | h4
        · revert h4; decide
        · exact (okB_txL _ _ h4).1 rfl
theorem no_end_R {r : List Nat × Nat × Nat} (hc : Ad r.1) : (10 : UInt8) ∉ lnR r := by
  intro h
  unfold lnR at h
  rcases List.mem_append.1 h with h1 | h1
  · revert h1; decide
  · rcases List.mem_cons.1 h1 with h2 | h2
    · revert h2; decide
    · rcases List.mem_append.1 h2 with h3 | h3
      · exact (okB_nm hc.2 _ h3).1 rfl
      · rcases List.mem_cons.1 h3 with h4 | h4
        · revert h4; decide
        · rcases List.mem_append.1 h4 with h5 | h5
          · exact (okB_dd _ _ h5).1 rfl
          · rcases List.mem_cons.1 h5 with h6 | h6
            · revert h6; decide
            · exact (okB_txL _ _ h6).1 rfl

/-! Unlike lists of lines. -/
def vdD (l : List UInt8) : Nat := l.foldl (fun n x => 10 * n + (x.toNat - 48)) 0
theorem no_end {d : Nat} {cs : List (List Nat × Nat)} {rs : List (List Nat × Nat × Nat)} (h1 : ∀ c ∈ cs, Ad c.1) (h2 : ∀ r ∈ rs, Ad r.1) : ∀ x ∈ lnsP d cs rs, (10 : UInt8) ∉ x := by
  intro x hx
  rcases List.mem_cons.1 hx with rfl | h
  · exact no_end_D d
  · rcases List.mem_append.1 h with h | h
    · obtain ⟨c, hc, rfl⟩ := List.mem_map.1 h
      exact no_end_C (h1 c hc)
    · obtain ⟨c, hc, rfl⟩ := List.mem_map.1 h
      exact no_end_R (h2 c hc)
end Go.Proofs.YtenepkgjdoddgaaGreatDoor

