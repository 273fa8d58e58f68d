/- Texts laid into one: Pe. -/
import Derived.Test.YtenepkgjdoddgaaGreatDoorRm
import Derived.Test.YtenepkgjdoddgaaGreatDoorPb
import Derived.Laws.ResultCell
/- policy's laws: of. -/
namespace Go.Proofs.YtenepkgjdoddgaaGreatDoor
open Go.RowKit Go.Shelf

/-- An address by its last byte. -/
def ofL (n : Nat) : List Nat := List.replicate 19 0 ++ [n]
theorem ofL_ad {n : Nat} (h : n < 256) : Ad (ofL n) := by
  refine ⟨rfl, fun x hx => ?_⟩
  unfold ofL at hx
  rcases List.mem_append.1 hx with h1 | h1
  · rw [List.eq_of_mem_replicate h1]; omega
  · simp at h1; omega
theorem ofL_lit (n : Nat) : adC (ofL n) = #[.int .u8 0, .int .u8 0, .int .u8 0, .int .u8 0, .int .u8 0, .int .u8 0, .int .u8 0, .int .u8 0, .int .u8 0, .int .u8 0, .int .u8 0, .int .u8 0, .int .u8 0, .int .u8 0, .int .u8 0, .int .u8 0, .int .u8 0, .int .u8 0, .int .u8 0, .int .u8 (n : Nat)] := by unfold adC ofL bvs; rfl
def zaC : Array Value := #[.int .u8 0, .int .u8 0, .int .u8 0, .int .u8 0, .int .u8 0, .int .u8 0, .int .u8 0, .int .u8 0, .int .u8 0, .int .u8 0, .int .u8 0, .int .u8 0, .int .u8 0, .int .u8 0, .int .u8 0, .int .u8 0, .int .u8 0, .int .u8 0, .int .u8 0, .int .u8 0]
theorem zaC_lit : zaC = #[.int .u8 0, .int .u8 0, .int .u8 0, .int .u8 0, .int .u8 0, .int .u8 0, .int .u8 0, .int .u8 0, .int .u8 0, .int .u8 0, .int .u8 0, .int .u8 0, .int .u8 0, .int .u8 0, .int .u8 0, .int .u8 0, .int .u8 0, .int .u8 0, .int .u8 0, .int .u8 0] := rfl
theorem zaC_size : zaC.size = 20 := rfl
attribute [irreducible] zaC
theorem adC_one (a : List Nat) : (adC a).all (·.oneCell') = true := by unfold adC; exact all_oneCell_toArray (bvs_one a)
set_option maxRecDepth 100000 in
set_option maxHeartbeats 4000000 in
theorem pof_any (n : Nat) (hn : n < 256) (w : World) : Calls Tryz.prog 37 #[.int .u8 n] w fun e w' => e = .returned (.agg (adC (ofL n))) ∧ Below w.heap.size w w' := by
  have HA := Lib.hid (ofL_ad hn)
  have HL := Lib.hid (ofL_lit n)
  clear hn
  go_enter Tryz.func37, Tryz.ntmps37
  go_upto_region 3 with fail
  rw [← zaC_lit, ← HL.out]
  obtain ⟨X, hX⟩ : ∃ X, (w.alloc (.cells zaC 29)).alloc (.cells (adC (ofL n)) 29) = X := ⟨_, rfl⟩
  have b1 : Blk X w.heap.size 29 zaC := by rw [← hX]; exact (Blk.new w _ _).alloc _
  have b2 : Blk X (w.heap.size + 1) 29 (adC (ofL n)) := by rw [← hX]; exact Blk.newS w _ _ _
  have hW : Below w.heap.size w X := by rw [← hX]; exact balloc (balloc (Below.refl _ _) _) _
  rw [hX]
  clear hX
  refine wp_region_lit ?_
  refine wpList_load_midA rfl 29 (.tmp 3) rfl (w.heap.size + 1) 0 rfl (adC (ofL n)) _ b2.range und_addr rfl (by rw [info_addr, adC_size HA.out]) ?_
  refine wpList_store_row rfl 29 (.tmp 2) (.tmp 6) rfl w.heap.size (adC (ofL n)) rfl rfl 29 zaC b1 (by rw [info_addr, adC_size HA.out]) (by rw [zaC_size, adC_size HA.out]) (adC_one _) (wpList_nil ?_)
  have hgr : Blk (X.setRow w.heap.size (adC (ofL n))) w.heap.size 29 (adC (ofL n)) := setRow_heap _ _ _ _ _ _ b1
  have HE := Lib.hid (And.intro hgr (hW.trans (⟨rfl, rfl, rfl, by simp, fun k hk => setRow_other _ _ _ _ (by omega)⟩ : Below w.heap.size X (X.setRow w.heap.size (adC (ofL n))))))
  clear b1 b2 hgr hW HL
  generalize X.setRow w.heap.size (adC (ofL n)) = Z at HE ⊢
  go_wp2_with fail
  exact ⟨rfl, _, results_cell_row rfl _ _ w.heap.size 29 (adC (ofL n)) (0, 0) _ rfl HE.out.1 und_addr rfl (by rw [info_addr, adC_size HA.out]), rfl, HE.out.2⟩
end Go.Proofs.YtenepkgjdoddgaaGreatDoor

/- policy's reference: an address's text. -/
namespace Go.Proofs.YtenepkgjdoddgaaGreatDoor
open Go.RowKit Go.Shelf

def hdg (d : Nat) : UInt8 := UInt8.ofNat (if d < 10 then 48 + d else 87 + d)
/-- The text of so many bytes. -/
def nmL (l : List Nat) : List UInt8 := [48, 120] ++ l.flatMap fun x => [hdg (x / 16), hdg (x % 16)]
theorem nmL_snoc (l : List Nat) (x : Nat) : nmL (l ++ [x]) = nmL l ++ [hdg (x / 16)] ++ [hdg (x % 16)] := by simp [nmL, List.flatMap_append]
theorem nmL_len (l : List Nat) : (nmL l).length = 2 + 2 * l.length := by
  induction l with
  | nil => rfl
  | cons x r ih => simp only [nmL, List.flatMap_cons, List.length_append, List.length_cons, List.length_nil] at ih ⊢; omega
abbrev hxS : ByteArray := ⟨#[48, 49, 50, 51, 52, 53, 54, 55, 56, 57, 97, 98, 99, 100, 101, 102]⟩
theorem hxS_at' : ∀ k : Fin 16, (hxS.extract k.val (k.val + 1)).data.toList = [hdg k.val] := by decide +kernel
theorem hxS_at (k : Nat) (h : k < 16) : hxS.extract k (k + 1) = ⟨[hdg k].toArray⟩ := by
  have := hxS_at' ⟨k, h⟩
  dsimp only at this
  rw [← this]
attribute [irreducible] nmL hdg
set_option maxRecDepth 100000 in
set_option maxHeartbeats 4000000 in
theorem rname_any (a : List Nat) (ha : Ad a) (w : World) :
    Calls Tryz.prog 31 #[.agg (adC a)] w fun e w' => e = .returned (.string ⟨(nmL a).toArray⟩) ∧ Below w.heap.size w w' := by
  obtain ⟨X, hX⟩ : ∃ X, w.alloc (.cells (adC a) 29) = X := ⟨_, rfl⟩
  have b1 : Blk X w.heap.size 29 (adC a) := by rw [← hX]; exact Blk.new w _ _
  have hW : Below w.heap.size w X := by rw [← hX]; exact balloc (Below.refl _ _) _
  have HX := Lib.hid hX
  have H0 := Lib.hid (And.intro ha (And.intro b1 hW))
  clear hX b1 hW ha
  go_enter Tryz.func31, Tryz.ntmps31
  go_wp2_with fail
  rw [HX.out]
  go_loopw [3, 4] (fun s t wr => ∃ (i : Nat), t = .int .i64 i ∧ s = .string ⟨(nmL (a.take i)).toArray⟩ ∧ i ≤ 20 ∧ wr.heap = X.heap ∧ Below w.heap.size w wr) (fun _ t _ => 20 - (intOf t).toNat)
  case atStart => exact ⟨0, rfl, by unfold nmL; rfl, by omega, rfl, H0.out.2.2⟩
  case round =>
    obtain ⟨i, rfl, rfl, hi, hwh, hW⟩ := hrel
    obtain ⟨ha, b1, _⟩ := H0.out
    have b1 : Blk wr w.heap.size 29 (adC a) := (congrArg (fun h : Array Obj => h[w.heap.size]?) hwh).trans b1
    have HW := Lib.hid (And.intro hwh hW)
    by_cases hlt : i < 20
    · obtain ⟨x, hx, hx2, k1⟩ := ha.cell b1 i hlt
      have g0 : (i : Int) < 20 := by omega
      have g1 : (0 : Int) ≤ (i : Int) := by omega
      have g2 : IntKind.i64.wrap ((i : Int) + 1) = ((i + 1 : Nat) : Int) := IntWalk.i64_in _ (by omega)
      obtain ⟨p, hp⟩ : ∃ p, x / 16 = p := ⟨_, rfl⟩
      obtain ⟨q, hq⟩ : ∃ q, x % 16 = q := ⟨_, rfl⟩
      have hp16 : p < 16 := by omega
      have hq16 : q < 16 := by omega
      have g3 : IntKind.u8.wrap ((x : Int) / 16) = (p : Int) := by
        rw [show (x : Int) / 16 = (p : Int) from by omega]
        exact IntWalk.u8_in _ (by omega)
      have g4 : IntKind.u8.wrap ((x : Int) % 16) = (q : Int) := by
        rw [show (x : Int) % 16 = (q : Int) from by omega]
        exact IntWalk.u8_in _ (by omega)
      have g5 : IntKind.u8.wrap ((p : Int) + 1) = (p : Int) + 1 := IntWalk.u8_in _ (by omega)
      have g6 : IntKind.u8.wrap ((q : Int) + 1) = (q : Int) + 1 := IntWalk.u8_in _ (by omega)
      have g7 : (p : Int) < 16 := by omega
      have g8 : (q : Int) < 16 := by omega
      have g9 : (0 : Int) ≤ (p : Int) + 1 := by omega
      have g10 : (0 : Int) ≤ (q : Int) + 1 := by omega
      have g11 : (p : Int) + 1 ≤ 16 := by omega
      have g12 : (q : Int) + 1 ≤ 16 := by omega
      have g13 : (p : Int) ≤ (p : Int) + 1 := by omega
      have g14 : (q : Int) ≤ (q : Int) + 1 := by omega
      have hlen : (nmL (a.take i)).length ≤ 42 := by rw [nmL_len, List.length_take]; omega
      have g15 : ¬ 9223372036854775807 < (nmL (a.take i)).length + (min (p + 1) 16 - p) := by omega
      have g16 : ¬ 9223372036854775807 < (nmL (a.take i)).length + (min (p + 1) 16 - p) + (min (q + 1) 16 - q) := by omega
      have HI := Lib.hid (And.intro hx (And.intro hp hq))
      clear hx hp hq ha b1 hW hwh hx2
      go_wp2_with fail
      go_quiet (fail)
      go_wp2_with fail
      have hs : nmL (a.take (i + 1)) = nmL (a.take i) ++ [hdg p] ++ [hdg q] := by rw [List.take_add_one, HI.out.1, ← HI.out.2.1, ← HI.out.2.2]; exact nmL_snoc _ _
      exact ⟨⟨i + 1, congrArg (Value.int .i64) (by omega), by rw [hxS_at p (by omega), HI.out.2.2, hxS_at q (by omega), ByteArray.mk_append_mk, ByteArray.mk_append_mk, hs], by omega, HW.out.1, HW.out.2.trans ⟨rfl, rfl, rfl, Nat.le_refl _, fun _ _ => rfl⟩⟩, by simp [intOf]; omega⟩
    · obtain rfl : i = 20 := by omega
      have g0 : ¬ ((20 : Nat) : Int) < 20 := by omega
      have ht : a.take 20 = a := List.take_of_length_le (by have := ha.1; omega)
      rw [ht]
      have HE := Lib.hid (And.intro trivial hW)
      clear ha b1 hW hwh ht
      go_wp2_with fail
      go_ret
      exact ⟨rfl, HE.out.2⟩
end Go.Proofs.YtenepkgjdoddgaaGreatDoor

/- policy's laws: a text of no address. -/
namespace Go.Proofs.YtenepkgjdoddgaaGreatDoor
open Go.RowKit Go.Shelf

theorem zaC_ad : zaC = adC (ofL 0) := by rw [zaC_lit, ofL_lit]; rfl
theorem zaC_one : zaC.all (·.oneCell') = true := by rw [zaC_ad]; exact adC_one _
/-- Two results, the first a row. -/
theorem results_row_tmp {P : Program} {fn : Func} {p u : Tmp} {ty : TypeId} (h : fn.results = #[.cell p ty, .tmp u]) (tmps : Array Value) (w : World) (g : Nat) (t : TypeId) (cs : Array Value) (fr : Nat × Nat) (d : TypeDesc)
    (hp : tmps.getD p undef = .pointer (some ⟨g, 0, none⟩)) (hg : w.heap[g]? = some (.cells cs t fr))
    (hu : P.underlying ty = some d) (hd : (match d with | .struct _ | .array _ _ => true | _ => false) = true) (hi : (P.info? ty).map (·.size) = some cs.size) :
    (results fn tmps).run P w = .ok (.tuple #[.agg cs, tmps.getD u undef]) w := by
  rw [results_cell_tmp h, hp]
  simp [asAddr, Result.andThen, run_loadVar_row w g t ty cs fr d hg hu hd hi]
theorem cut_01 (w : World) : Calls Tryz.prog 62 #[.string ⟨#[48, 120, 49]⟩, .string ⟨#[48, 120]⟩] w fun e w' => e = .returned (.tuple #[.string ⟨#[49]⟩, .bool true]) ∧ w = w' :=
  (cutPrefix_any ⟨#[48, 120, 49]⟩ ⟨#[48, 120]⟩ w).mono fun _ _ h => ⟨h.1.trans (by rfl), h.2⟩
set_option maxRecDepth 100000 in
set_option maxHeartbeats 4000000 in
theorem address_01 (w : World) : Calls Tryz.prog 26 #[.string ⟨#[48, 120, 49]⟩] w fun e w' => e = .returned (.tuple #[.agg zaC, .int .i64 190]) ∧ Below w.heap.size w w' := by
  go_enter Tryz.func26, Tryz.ntmps26
  go_upto_region 3 with (first | (go_at_call 62; refine (cut_01 _).mono ?_; rintro e w' ⟨rfl, rfl⟩) | fail)
  rw [← zaC_lit]
  obtain ⟨X, hX⟩ : ∃ X, w.alloc (.cells zaC 29) = X := ⟨_, rfl⟩
  have b1 : Blk X w.heap.size 29 zaC := by rw [← hX]; exact Blk.new w _ _
  have hW : Below w.heap.size w X := by rw [← hX]; exact balloc (Below.refl _ _) _
  rw [hX]
  clear hX
  refine wp_region_lit ?_
  refine wpList_plain rfl fun K hK => ?_
  go_simp
  refine hK _ _ ?_
  clear hK K
  rw [← zaC_lit]
  refine wpList_store_row rfl 29 (.tmp 2) (.tmp 20) rfl w.heap.size zaC rfl rfl 29 zaC b1 (by rw [info_addr, zaC_size]) rfl zaC_one ?_
  rw [setRow_self _ _ _ _ _ b1]
  refine wpList_plain rfl fun K hK => ?_
  go_simp
  refine hK _ _ ?_
  clear hK K
  refine wpList_nil ?_
  have HE := Lib.hid (And.intro b1 hW)
  clear b1 hW
  go_wp2_with fail
  exact ⟨rfl, _, results_row_tmp rfl _ _ w.heap.size 29 zaC (0, 0) _ rfl HE.out.1 und_addr rfl (by rw [info_addr, zaC_size]), rfl, HE.out.2⟩
end Go.Proofs.YtenepkgjdoddgaaGreatDoor

