/- Plain facts: digits of digits; numbers of bytes of numbers. Nothing of the program is named. -/
import Derived.Test.YtobjbnefikdlnaaMath2
namespace Go.My
open Go.RowKit

theorem hexN_hexD (n : Nat) (h : n < 16) : hexN (hexD n).toNat = some n := by
  rcases n with _ | _ | _ | _ | _ | _ | _ | _ | _ | _ | _ | _ | _ | _ | _ | _ | n <;> first | rfl | omega
theorem hexD_hexN (b : UInt8) (v : Nat) (h : hexN b.toNat = some v) : hexD v = b := by
  have hb := b.toNat_lt
  have key : ∀ n : Fin 256, ∀ v : Fin 16, hexN n.val = some v.val → (hexD v.val).toNat = n.val := by decide +kernel
  have hv := hexN_lt h
  have := key ⟨b.toNat, by omega⟩ ⟨v, hv⟩ h
  exact UInt8.toNat_inj.1 this

theorem hexL_get (l : List UInt8) : ∀ i, i < l.length → (hexL l).getD (2 * i) 0 = hexD ((l.getD i 0).toNat / 16) ∧ (hexL l).getD (2 * i + 1) 0 = hexD ((l.getD i 0).toNat % 16) := by
  induction l with
  | nil => intro i hi; simp at hi
  | cons a l ih =>
    intro i hi
    have e : hexL (a :: l) = hexD (a.toNat / 16) :: hexD (a.toNat % 16) :: hexL l := by simp [hexL]
    rw [e]
    cases i with
    | zero => exact ⟨rfl, rfl⟩
    | succ i =>
      have h := ih i (by simpa using hi)
      rw [show 2 * (i + 1) = 2 * i + 1 + 1 by omega]
      simpa using h

theorem byteAt_str (l : List UInt8) (q : Nat) : byteAt (str l) q = (l.getD q 0).toNat := by unfold byteAt; rw [str_list]

theorem hexL_digit (l : List UInt8) (q : Nat) (h : q < 2 * l.length) : hexN (byteAt (str (hexL l)) q) = some (if q % 2 = 0 then (l.getD (q / 2) 0).toNat / 16 else (l.getD (q / 2) 0).toNat % 16) := by
  have hg := hexL_get l (q / 2) (by omega)
  have hb := (l.getD (q / 2) 0).toNat_lt
  rw [byteAt_str]
  by_cases he : q % 2 = 0
  · rw [if_pos he, show q = 2 * (q / 2) by omega, hg.1, hexN_hexD _ (by omega)]
    rw [show 2 * (q / 2) / 2 = q / 2 by omega]
  · rw [if_neg he]
    have : q = 2 * (q / 2) + 1 := by omega
    rw [this, hg.2, hexN_hexD _ (by omega)]
    rw [show (2 * (q / 2) + 1) / 2 = q / 2 by omega]

theorem list_of_range (l : List UInt8) : (List.range l.length).map (fun q => l.getD q 0) = l := by
  apply List.ext_getElem?
  intro q
  by_cases hq : q < l.length
  · simp [hq]
  · rw [List.getElem?_eq_none (by simp; omega), List.getElem?_eq_none (by omega)]

/-- What HexOf gives ReadHex takes back. -/
theorem hexRes_hexL (l : List UInt8) : hexRes (str (hexL l)) = .tuple #[.string (str l), .bool true] := by
  have hs : (str (hexL l)).size = 2 * l.length := by rw [str_size, hexL_length]
  rw [hexRes_yes (by omega) (fun q hq => by rw [hexL_digit l q (by omega)]; rfl)]
  congr 4
  have : unhexL (str (hexL l)) = (List.range l.length).map (fun q => l.getD q 0) := by
    unfold unhexL
    rw [hs, show 2 * l.length / 2 = l.length by omega]
    apply List.map_congr_left
    intro q hq
    have hq' := List.mem_range.1 hq
    unfold nib
    rw [hexL_digit l (2 * q) (by omega), hexL_digit l (2 * q + 1) (by omega), if_pos (by omega), if_neg (by omega), show 2 * q / 2 = q by omega, show (2 * q + 1) / 2 = q by omega]
    simp only [Option.getD_some]
    rw [Nat.div_add_mod]
    exact UInt8.ofNat_toNat
  rw [this, list_of_range]

/-- What ReadHex takes HexOf gives back. -/
theorem hexL_unhexL (s : ByteArray) (he : s.size % 2 = 0) (hd : digits s s.size) : str (hexL (unhexL s)) = s := by
  have hl : (unhexL s).length = s.size / 2 := by simp [unhexL]
  have key : hexL (unhexL s) = s.data.toList := by
    rw [← list_of_range (hexL (unhexL s)), ← list_of_range s.data.toList, hexL_length, hl, len_data, show 2 * (s.size / 2) = s.size by omega]
    apply List.map_congr_left
    intro q hq
    have hq' := List.mem_range.1 hq
    have hg := hexL_get (unhexL s) (q / 2) (by omega)
    have hu : (unhexL s).getD (q / 2) 0 = UInt8.ofNat (16 * nib s (2 * (q / 2)) + nib s (2 * (q / 2) + 1)) := by
      have hqq : q / 2 < s.size / 2 := by omega
      simp [unhexL, hqq]
    have h1 := nib_lt s (2 * (q / 2))
    have h2 := nib_lt s (2 * (q / 2) + 1)
    rw [hu, UInt8.toNat_ofNat', Nat.mod_eq_of_lt (by omega)] at hg
    have hdig := hd q hq'
    obtain ⟨v, hv⟩ := Option.isSome_iff_exists.1 hdig
    have hn : nib s q = v := by unfold nib; rw [hv]; rfl
    have hb := hexD_hexN (s.data.toList.getD q 0) v hv
    rcases (show q = 2 * (q / 2) ∨ q = 2 * (q / 2) + 1 by omega) with h | h
    · have hh := hg.1
      rw [show (16 * nib s (2 * (q / 2)) + nib s (2 * (q / 2) + 1)) / 16 = nib s (2 * (q / 2)) by omega, ← h, hn, hb] at hh
      exact hh
    · have hh := hg.2
      rw [show (16 * nib s (2 * (q / 2)) + nib s (2 * (q / 2) + 1)) % 16 = nib s (2 * (q / 2) + 1) by omega, ← h, hn, hb] at hh
      exact hh
  rw [key, str_of]

/-- The two results of ReadHex, with what they say of HexOf. -/
theorem hexRes_cases (s : ByteArray) : hexRes s = .tuple #[.string (str []), .bool false] ∨ ∃ l, hexRes s = .tuple #[.string (str l), .bool true] ∧ str (hexL l) = s ∧ l.length = s.size / 2 := by
  unfold hexRes
  split
  · rename_i h
    exact .inr ⟨_, rfl, hexL_unhexL s h.1 h.2, by simp [unhexL]⟩
  · exact .inl rfl

end Go.My
