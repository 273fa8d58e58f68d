/- account: addresses as keys, entries as values. -/
import Derived.Test.YtcplhalgjjhmdaaMga
import Derived.Test.YtcplhalgjjhmdaaRb
namespace Go.Proofs.Ytcplhalgjjhmdaa
open Go.RowKit Go.Shelf Go.ChangeMaps Go.MapKept

theorem addrKey : WideMaps.ArrKey Try.prog 28 5 20 := ⟨by kernel_rfl, by kernel_rfl, by kernel_rfl, by kernel_rfl⟩
theorem keyedA : Maps.Keyed Try.prog 28 := Maps.Keyed.of_law addrKey.law
theorem byte_wf {x : Nat} (h : x < 256) : (Lit.int .u8 (x : Nat)).wf = true := by
  have e1 : IntKind.u8.min = 0 := by decide
  have e2 : IntKind.u8.max = 255 := by decide
  simp only [Lit.wf, e1, e2, Bool.and_eq_true, decide_eq_true_eq]
  omega
theorem keyLits_byte {m0 x : Nat} (h : x < 256) : Program.keyLits Try.prog (m0 + 1) 5 [.int .u8 (x : Nat)] = some [.int .u8 (x : Nat)] := by
  have he : Try.prog.underlying 5 = some (.int .u8) := by kernel_rfl
  unfold Program.keyLits
  simp only [he]
  rw [if_pos ⟨trivial, byte_wf h⟩]
theorem adC_lit (a0 a1 a2 a3 a4 a5 a6 a7 a8 a9 a10 a11 a12 a13 a14 a15 a16 a17 a18 a19 : Nat) : adC [a0, a1, a2, a3, a4, a5, a6, a7, a8, a9, a10, a11, a12, a13, a14, a15, a16, a17, a18, a19] = #[.int .u8 (a0 : Nat), .int .u8 (a1 : Nat), .int .u8 (a2 : Nat), .int .u8 (a3 : Nat), .int .u8 (a4 : Nat), .int .u8 (a5 : Nat), .int .u8 (a6 : Nat), .int .u8 (a7 : Nat), .int .u8 (a8 : Nat), .int .u8 (a9 : Nat), .int .u8 (a10 : Nat), .int .u8 (a11 : Nat), .int .u8 (a12 : Nat), .int .u8 (a13 : Nat), .int .u8 (a14 : Nat), .int .u8 (a15 : Nat), .int .u8 (a16 : Nat), .int .u8 (a17 : Nat), .int .u8 (a18 : Nat), .int .u8 (a19 : Nat)] := by
  refine Array.ext_getElem? fun k => ?_
  rw [adC_get]
  match k with
  | 0 | 1 | 2 | 3 | 4 | 5 | 6 | 7 | 8 | 9 | 10 | 11 | 12 | 13 | 14 | 15 | 16 | 17 | 18 | 19 => rfl
  | k + 20 => simp
theorem keyA {a : List Nat} (ha : Ad a) : ∃ l, keyOf Try.prog 28 (.agg (adC a)) = some l := by
  obtain ⟨h1, h2⟩ := ha
  match a, h1, h2 with
  | [a0, a1, a2, a3, a4, a5, a6, a7, a8, a9, a10, a11, a12, a13, a14, a15, a16, a17, a18, a19], _, h2 =>
    rw [adC_lit]
    refine ⟨.string (keyBytes [.int .u8 (a0 : Nat), .int .u8 (a1 : Nat), .int .u8 (a2 : Nat), .int .u8 (a3 : Nat), .int .u8 (a4 : Nat), .int .u8 (a5 : Nat), .int .u8 (a6 : Nat), .int .u8 (a7 : Nat), .int .u8 (a8 : Nat), .int .u8 (a9 : Nat), .int .u8 (a10 : Nat), .int .u8 (a11 : Nat), .int .u8 (a12 : Nat), .int .u8 (a13 : Nat), .int .u8 (a14 : Nat), .int .u8 (a15 : Nat), .int .u8 (a16 : Nat), .int .u8 (a17 : Nat), .int .u8 (a18 : Nat), .int .u8 (a19 : Nat)]), ?_⟩
    obtain ⟨m0, hm0⟩ : ∃ m, Try.prog.types.size = m + 1 := ⟨Try.prog.types.size - 1, by kernel_rfl⟩
    have hkt := addrKey.keyType ⟨m0, hm0⟩
    unfold keyOf
    simp only [addrKey.hu]
    rw [if_pos (by simp [hkt, Value.formed, addrKey.hu, addrKey.size]), hm0]
    unfold Program.keyLits
    simp only [addrKey.hu, Value.cells]
    rw [if_pos (by rw [addrKey.size]; rfl)]
    have hl : ∀ x ∈ [a0, a1, a2, a3, a4, a5, a6, a7, a8, a9, a10, a11, a12, a13, a14, a15, a16, a17, a18, a19], Program.keyLits Try.prog (m0 + 1) 5 [.int .u8 (x : Nat)] = some [.int .u8 (x : Nat)] := fun x hx => keyLits_byte (h2 x hx)
    simp only [List.mem_cons, List.not_mem_nil, or_false, forall_eq_or_imp, forall_eq] at hl
    simp [addrKey.one, hl, List.range_succ]
theorem adC_inj {a b : List Nat} (h : (Value.agg (adC a)) = .agg (adC b)) : a = b := by
  injection h with h
  refine List.ext_getElem? fun k => ?_
  have h1 := congrArg (fun x : Array Value => x[k]?) h
  simp only [adC_get] at h1
  cases ha : a[k]? <;> cases hb : b[k]? <;> simp [ha, hb] at h1 ⊢
  omega
/-! Entries: a balance, a nonce, code, the block of a storage. -/
abbrev En := (Nat × Nat) × Nat × List Nat × Option Nat
def coS (l : List Nat) : ByteArray := ⟨(l.map UInt8.ofNat).toArray⟩
abbrev ptV (o : Option Nat) : Value := .pointer (o.map fun g => ⟨g, 0, none⟩)
abbrev enC (e : En) : Array Value := #[.int .u64 (lb e.1.1 0), .int .u64 (lb e.1.1 1), .int .u64 (lb e.1.1 2), .int .u64 (lb e.1.1 3), .int .u64 (e.1.2 : Nat), .int .u64 (e.2.1 : Nat), .string (coS e.2.2.1), ptV e.2.2.2]
abbrev boC (e : En) : Array Value := #[.int .u64 (lb e.1.1 0), .int .u64 (lb e.1.1 1), .int .u64 (lb e.1.1 2), .int .u64 (lb e.1.1 3), .int .u64 (e.1.2 : Nat), .int .u64 (e.2.1 : Nat), .string (coS e.2.2.1)]
def okC (l : List Nat) : Prop := (∀ x ∈ l, x < 256) ∧ l.length ≤ 100000
def okE (e : En) : Prop := okP e.1 ∧ e.2.1 < 2 ^ 64 ∧ okC e.2.2.1
def zE : En := ((0, 0), 0, [], none)
theorem okE0 : okE zE := ⟨okP0, by decide, by simp [okC, zE]⟩
def enD : MD (List Nat) En where
  kv := fun a => .agg (adC a)
  vv := fun e => .agg (enC e)
  okK := Ad
  okV := okE
theorem enK : MK Try.prog 28 enD := ⟨fun _ _ h => adC_inj h, fun h => keyA h, keyedA⟩
theorem coS0 : coS [] = "".toUTF8 := by rfl
theorem zeroEn (w : World) : (zeroValue 73).run Try.prog w = .ok (enD.vv zE) w := by
  show _ = Result.ok (Value.agg (enC ((0, 0), 0, [], none))) w
  simp only [enC, lb0]
  kernel_rfl
end Go.Proofs.Ytcplhalgjjhmdaa
