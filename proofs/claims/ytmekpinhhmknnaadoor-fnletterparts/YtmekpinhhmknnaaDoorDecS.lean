/- Decimals of the specification. -/
import Derived.Test.YtmekpinhhmknnaaDoorDec
namespace Go.Proofs.YtmekpinhhmknnaaDoor
open Go.RowKit Go.My Go.Lib
set_option linter.unusedVariables false

theorem dec_step {k : Nat} (h : ¬ k < 10) : Lib.decDigits k = Lib.decDigits (k / 10) ++ [UInt8.ofNat (48 + k % 10)] := by
  conv => lhs; rw [Lib.decDigits]
  rw [dif_neg h]
theorem dec_last {k : Nat} (h : k < 10) : Lib.decDigits k = [UInt8.ofNat (48 + k)] := by rw [Lib.decDigits, dif_pos h]

def decC (x : Nat) : ByteArray := ⟨[UInt8.ofNat x].toArray⟩
theorem conv_one (W : World) (z : Int) (x : Nat) (hz : z = (x : Int)) (hx : x < 256) :
    (convert 51 9 (.slice (some ⟨W.heap.size, 0, none⟩) 1 1)).run Tryd.prog (W.alloc (.cells #[.int .u8 z] 5)) = .ok (.string (decC x)) (W.alloc (.cells #[.int .u8 z] 5)) := by
  subst hz
  have h := heap_alloc_new W (.cells #[.int .u8 (x : Int)] 5)
  have := run_convert_bytes_back (P := Tryd.prog) (W.alloc (.cells #[.int .u8 (x : Int)] 5)) 51 9 5 ⟨W.heap.size, 0, none⟩ 1 [UInt8.ofNat x] Tryd.underlying51 Tryd.underlying5 Tryd.underlying9 (fun j hj => by
    have hj : j = 0 := by simpa using hj
    subst hj
    rw [Addr.add_lit]
    simp only [World.cell?, h]
    simp
    omega)
  exact this
def decD (u : Nat) : ByteArray := ⟨(Lib.decDigits u).toArray⟩
theorem str_app (a b : List UInt8) : (⟨a.toArray⟩ : ByteArray) ++ ⟨b.toArray⟩ = ⟨(a ++ b).toArray⟩ := by
  apply ByteArray.ext
  rw [ByteArray.data_append]
  simp
theorem decD_step {k : Nat} (h : ¬ k < 10) : decD k = decD (k / 10) ++ decC (48 + k % 10) := by
  unfold decD decC
  rw [str_app, dec_step h]
theorem decD_last {k : Nat} (h : k < 10) : decD k = decC (48 + k) := by
  unfold decD decC
  rw [dec_last h]
theorem decD_len {u : Nat} (h : u < 18446744073709551616) : (decD u).size ≤ 20 := by
  have := Lib.nDigits_le20 u h
  rw [← Lib.decDigits_length] at this
  show (Lib.decDigits u).toArray.size ≤ 20
  simpa using this
theorem decD_pos (u : Nat) (h : 0 ≤ (u : Int)) : decV (u : Int) = decD u := by unfold decV decD; rw [Lib.itoa_nonneg]
theorem decD_neg (u : Nat) (h : 1 ≤ u) : decV (-(u : Int)) = ByteArray.mk #[45] ++ decD u := by
  unfold decV decD
  rw [Lib.itoa_neg u h]
  exact (str_app [45] _).symm

set_option maxRecDepth 20000 in
set_option maxHeartbeats 1000000 in
theorem dec_s (n : Int) (h0 : -9223372036854775808 ≤ n) (h1 : n ≤ 9223372036854775807) (w : World) :
    Calls Tryd.prog 27 #[.int .i64 n] w fun e w' => e = .returned (.string (decV n)) ∧ Below w.heap.size w w' := by
  by_cases hn : n < 0
  · obtain ⟨u, rfl⟩ : ∃ u : Nat, n = -(u : Int) := ⟨n.natAbs, by omega⟩
    have hwr : IntKind.u64.wrap (-(u : Int)) = 18446744073709551616 - (u : Int) := by
      simp [IntKind.wrap, IntKind.signed, IntKind.bits]; omega
    have hwn : IntKind.u64.wrap (-(18446744073709551616 - (u : Int))) = (u : Int) := by
      simp [IntKind.wrap, IntKind.signed, IntKind.bits]; omega
    have hq : -(u : Int) < 0 := hn
    have HV := Lib.hid (decD_neg u (by omega))
    have HL := Lib.hid (decD_len (u := u) (by omega))
    have HU : Hid (u ≤ 9223372036854775808) := by show _ ≤ _; omega
    clear h0 h1 hn
    go_enter Tryd.func27, Tryd.ntmps27
    go_wp2
    go_loopw [3, 4] (fun m s wr => ∃ (k : Nat) (S : ByteArray), m = .int .u64 k ∧ s = .string S ∧ Hid (decD u = decD k ++ S) ∧ k ≤ u ∧ Below w.heap.size w wr) (fun m _ _ => (RowKit.intOf m).toNat)
    case atStart => exact ⟨u, ByteArray.mk #[], rfl, rfl, by show _ = _; apply ByteArray.ext; simp, Nat.le_refl _, Below.refl _ _⟩
    case round =>
      obtain ⟨k, S, rfl, rfl, hd, hk, hb⟩ := hrel
      have hS : (S.size : Int) ≤ 20 := by
        have a := congrArg ByteArray.size hd.out
        rw [ByteArray.size_append] at a
        have := HL.out
        omega
      by_cases hk10 : k < 10
      · have c1 : ¬ (10 : Int) ≤ (k : Int) := by omega
        have hcv := conv_one wr (48 + (k : Int)) (48 + k) (by omega) (by omega)
        have HD : Hid (decD u = decC (48 + k) ++ S) := by show _ = _; rw [hd.out, decD_last hk10]
        have hz : (decC (48 + k)).size = 1 := rfl
        generalize decC (48 + k) = Z at *
        have hzI : (Z.size : Int) = 1 := by omega
        clear hd
        go_wp2
        go_ret
        refine ⟨?_, hb.alloc hb.size _⟩
        rw [HV.out, HD.out]
        rfl
      · have c1 : (10 : Int) ≤ (k : Int) := by omega
        have hcv := conv_one wr (48 + (k : Int) % 10) (48 + k % 10) (by omega) (by omega)
        have HD : Hid (decD u = decD (k / 10) ++ (decC (48 + k % 10) ++ S)) := by show _ = _; rw [hd.out, decD_step hk10, ByteArray.append_assoc]
        have hz : (decC (48 + k % 10)).size = 1 := rfl
        generalize decC (48 + k % 10) = Z at *
        have hzI : (Z.size : Int) = 1 := by omega
        have hw10 : IntKind.u64.wrap ((k : Int) / 10) = (k : Int) / 10 := IntWalk.u64_in _ (by have := HU.out; constructor <;> omega)
        have HK := Lib.hid hk10
        clear hd hk10
        go_wp2
        go_roundw
        case rel => exact ⟨k / 10, _, by simp, rfl, HD, by omega, hb.alloc hb.size _⟩
        case measure => simp [RowKit.intOf]; have := HK.out; omega
  · obtain ⟨u, rfl⟩ : ∃ u : Nat, n = (u : Int) := ⟨n.toNat, by omega⟩
    have hwr : IntKind.u64.wrap (u : Int) = (u : Int) := IntWalk.u64_in _ ⟨by omega, by omega⟩
    have hq : ¬ (u : Int) < 0 := by omega
    have HV := Lib.hid (decD_pos u (by omega))
    have HL := Lib.hid (decD_len (u := u) (by omega))
    have HU : Hid (u ≤ 9223372036854775808) := by show _ ≤ _; omega
    clear h0 h1 hn
    go_enter Tryd.func27, Tryd.ntmps27
    go_wp2
    go_loopw [3, 4] (fun m s wr => ∃ (k : Nat) (S : ByteArray), m = .int .u64 k ∧ s = .string S ∧ Hid (decD u = decD k ++ S) ∧ k ≤ u ∧ Below w.heap.size w wr) (fun m _ _ => (RowKit.intOf m).toNat)
    case atStart => exact ⟨u, ByteArray.mk #[], rfl, rfl, by show _ = _; apply ByteArray.ext; simp, Nat.le_refl _, Below.refl _ _⟩
    case round =>
      obtain ⟨k, S, rfl, rfl, hd, hk, hb⟩ := hrel
      have hS : (S.size : Int) ≤ 20 := by
        have a := congrArg ByteArray.size hd.out
        rw [ByteArray.size_append] at a
        have := HL.out
        omega
      by_cases hk10 : k < 10
      · have c1 : ¬ (10 : Int) ≤ (k : Int) := by omega
        have hcv := conv_one wr (48 + (k : Int)) (48 + k) (by omega) (by omega)
        have HD : Hid (decD u = decC (48 + k) ++ S) := by show _ = _; rw [hd.out, decD_last hk10]
        have hz : (decC (48 + k)).size = 1 := rfl
        generalize decC (48 + k) = Z at *
        have hzI : (Z.size : Int) = 1 := by omega
        clear hd
        go_wp2
        go_ret
        refine ⟨?_, hb.alloc hb.size _⟩
        rw [HV.out, HD.out]
        rfl
      · have c1 : (10 : Int) ≤ (k : Int) := by omega
        have hcv := conv_one wr (48 + (k : Int) % 10) (48 + k % 10) (by omega) (by omega)
        have HD : Hid (decD u = decD (k / 10) ++ (decC (48 + k % 10) ++ S)) := by show _ = _; rw [hd.out, decD_step hk10, ByteArray.append_assoc]
        have hz : (decC (48 + k % 10)).size = 1 := rfl
        generalize decC (48 + k % 10) = Z at *
        have hzI : (Z.size : Int) = 1 := by omega
        have hw10 : IntKind.u64.wrap ((k : Int) / 10) = (k : Int) / 10 := IntWalk.u64_in _ (by have := HU.out; constructor <;> omega)
        have HK := Lib.hid hk10
        clear hd hk10
        go_wp2
        go_roundw
        case rel => exact ⟨k / 10, _, by simp, rfl, HD, by omega, hb.alloc hb.size _⟩
        case measure => simp [RowKit.intOf]; have := HK.out; omega

end Go.Proofs.YtmekpinhhmknnaaDoor
