/- The text of an envelope: of whatever is sealed the length counts. -/
import Derived.Test.YtmekpinhhmknnaaDoorPrl1
namespace Go.Proofs.YtmekpinhhmknnaaDoor
open Go.RowKit Go.My Go.Lib
set_option linter.unusedVariables false

def valL (l : List UInt8) : Nat := l.foldl (fun a c => 10 * a + (c.toNat - 48)) 0
theorem val_dec (u : Nat) : valL (Lib.decDigits u) = u := by
  induction u using Nat.strongRecOn with
  | ind u ih =>
    by_cases h : u < 10
    · rw [dec_last h]
      simp [valL]
      omega
    · rw [dec_step h]
      unfold valL at ih ⊢
      rw [List.foldl_append, ih (u / 10) (by omega)]
      simp
      omega
theorem decV_inj {m n : Nat} (h : decV (m : Int) = decV (n : Int)) : m = n := by
  unfold decV at h
  rw [Lib.itoa_nonneg, Lib.itoa_nonneg] at h
  have h1 := congrArg (fun s : ByteArray => s.data.toList) h
  simp only at h1
  have h2 := congrArg valL h1
  rw [val_dec, val_dec] at h2
  exact h2
theorem app_cancel {a b c : ByteArray} (h : a ++ b = a ++ c) : b = c := by
  have h1 := congrArg (fun s : ByteArray => s.data.toList) h
  simp only [ByteArray.data_append, Array.toList_append] at h1
  have h2 := List.append_cancel_left h1
  apply ByteArray.ext
  exact Array.toList_inj.1 h2
theorem envP_size {f t : Int} {z : Bool} {p q : ByteArray} {o : Int} {u : ByteArray} {a b : Int} {x y : ByteArray} (h : y.size = x.size) : EnvP f t z p q o u a b y ↔ EnvP f t z p q o u a b x := by
  unfold EnvP MsgP
  rw [h]
theorem partV_same {f t : Int} {z : Bool} {p q : ByteArray} {o : Int} {u : ByteArray} {a b : Int} {x y : ByteArray} (h : y.size = x.size) : partV f t z p q o u a b y = partV f t z p q o u a b x := by
  by_cases hE : EnvP f t z p q o u a b x
  · rw [partV_yes hE, partV_yes ((envP_size h).2 hE), h]
  · rw [partV_no hE, partV_no (fun c => hE ((envP_size h).1 c))]
theorem partT_pos (f t : Int) (z : Bool) (o a b n : Int) : 1 ≤ (partT f t z o a b n).size := by
  unfold partT
  rw [ByteArray.size_append, ByteArray.size_append]
  have : sp1.size = 1 := rfl
  omega
theorem partV_other {f t : Int} {z : Bool} {p q : ByteArray} {o : Int} {u : ByteArray} {a b : Int} {x y : ByteArray} (hE : EnvP f t z p q o u a b x) (h : y.size = x.size + 1) : partV f t z p q o u a b y ≠ partV f t z p q o u a b x := by
  intro c
  rw [partV_yes hE] at c
  by_cases hF : EnvP f t z p q o u a b y
  · rw [partV_yes hF] at c
    unfold partT at c
    have := decV_inj (app_cancel c)
    omega
  · rw [partV_no hF] at c
    have h1 := congrArg ByteArray.size c
    have h2 := partT_pos f t z o a b x.size
    have h3 : (ByteArray.mk #[]).size = 0 := rfl
    omega
theorem neqP {a b : ByteArray} (h : a ≠ b) : (a.toList == b.toList) = false := by
  rw [beq_eq_false_iff_ne]
  intro c
  apply h
  rw [ByteArray.toList_eq, ByteArray.toList_eq] at c
  cases a; cases b
  congr 1
  exact Array.toList_inj.1 c

end Go.Proofs.YtmekpinhhmknnaaDoor
