/- The specification's ReadEnv. -/
import Derived.Test.YtmolcpojdojmlaaRdM7z
import Derived.StillTailTactics
import Derived.Test.YtmolcpojdojmlaaRegF
namespace Go.Proofs.Ytmolcpojdojmlaa
open Go.RowKit Go.My Go.Lib
set_option linter.unusedVariables false

theorem one_of (s : ByteArray) (k : Nat) (h : k < s.size) : cut s k (k + 1) = ⟨#[s[k]'h]⟩ := by
  have : (s.extract k (k + 1)).data.toList = [s[k]'h] := by
    apply List.ext_getElem
    · simp; omega
    · intro i h1 h2
      have : i = 0 := by simp at h2; omega
      subst this
      simp
      rfl
  unfold cut
  rw [← str_of (s.extract k (k + 1)), this]
  rfl
theorem num_one (s : ByteArray) (k : Nat) (h : k < s.size) : numOf (cut s k (k + 1)).data.toList = (s[k]'h).toNat := by
  rw [one_of s k h]
  simp [numOf]
theorem nb_cut1 (s : ByteArray) (i : Nat) (h : i + 1 ≤ s.size) : nb (numOf (cut s i (i + 1)).data.toList : Nat) 1 = cut s i (i + 1) := by
  have hz := cut_size s i (i + 1) h
  have h2 : (cut s i (i + 1)).size = 1 := by omega
  have := numB_numOf (cut s i (i + 1)) (by omega) (by omega)
  rw [h2] at this
  exact this
theorem msgA_inj {p q : ByteArray} {a b c d : Int} {s t : ByteArray} (h : msgA p a b s = msgA q c d t) : p = q ∧ a = c ∧ b = d ∧ s = t := by
  simp [msgA] at h
  exact h
theorem BlkAt.drw {k : Nat} {cs : Array Value} {T : TypeId} {W : World} (h : BlkAt k cs T W) : BlkAt k cs T W.drew := h
theorem mk0 (s : ByteArray) (h : 2 < s.size) : (⟨#[0]⟩ : ByteArray) = cut s 2 3 ↔ nE s = 0 := by
  unfold nE
  rw [num_one s 2 h, one_of s 2 h]
  constructor
  · intro e
    have := congrArg (fun x : ByteArray => x.data.toList) e
    simp at this
    rw [← this]
    rfl
  · intro e
    have : s[2] = 0 := UInt8.toNat_inj.1 (by rw [e]; rfl)
    rw [this]
theorem mk1 (s : ByteArray) (h : 2 < s.size) (e : nE s = 1) : (⟨#[1]⟩ : ByteArray) = cut s 2 3 := by
  unfold nE at e
  rw [num_one s 2 h] at e
  rw [one_of s 2 h]
  have : s[2] = 1 := UInt8.toNat_inj.1 (by rw [e]; rfl)
  rw [this]
theorem ixE (s : ByteArray) (p : Nat) (h : p < s.size) (w : World) : (Instr.index 9 (.string s) (.int .i64 p)).run Try.prog w = .ok (.int .u8 ((s[p]'h).toNat : Int)) w := by
  have h1 : (p : Int) < (s.size : Int) := by omega
  simp [Instr.index, go_sem, h]
theorem cvE (b : Nat) (h : b < 256) (w : World) : (convert 5 2 (.int .u8 b)).run Try.prog w = .ok (.int .i64 b) w := by
  have : IntKind.i64.wrap (b : Int) = (b : Int) := IntWalk.i64_in _ (by omega)
  simp [convert, go_sem, this]
theorem eqE1 (b : Nat) (c : Bool) (hc : ((b : Int) == 1) = c) (k l : Operand) (w : World) : (do eqGuard .eql 5 k l (.int .u8 b) (.int .u8 1); binOp .eql 5 (.int .u8 b) (.int .u8 1) : Sem Value).run Try.prog w = .ok (.bool c) w := by
  subst hc
  simp [eqGuard, binOp, go_sem]
theorem bEnv3 (f t : Int) (z : Bool) (w : World) : (Instr.build 31 #[(0, .int .i64 f), (1, .int .i64 t), (2, .bool z)]).run Try.prog w = .ok (.agg (envA f t z ⟨#[]⟩ ⟨#[]⟩ 0 ⟨#[]⟩ 0 0 ⟨#[]⟩)) w := by kernel_rfl
theorem nEnv (w : World) : (Instr.alloc 31 true (.tuple #[])).run Try.prog w = .ok (.pointer (some ⟨w.heap.size, 0, none⟩)) (w.alloc (.cells zeroE 31)) := by simp [Instr.alloc, go_sem]
theorem empty_ne (s : ByteArray) (h : 0 < s.size) : (⟨#[]⟩ : ByteArray) ≠ s := fun e => by
  have := congrArg ByteArray.size e
  have h0 : (ByteArray.mk #[]).size = 0 := rfl
  omega

theorem envV_F (s : ByteArray) (h : 41 ≤ s.size) (u : ByteArray) (a b : Int) (x : ByteArray) (hx : rdMA (cut s 3 s.size) = msgA u a b x) :
    envV (fE s) (tE s) false ⟨#[]⟩ ⟨#[]⟩ 0 u a b x = s ↔ RdEF s := by
  have hms := cut_size s 3 s.size (Nat.le_refl _)
  by_cases hm : RdMP (cut s 3 s.size)
  case neg =>
    rw [rdMA_no hm] at hx
    obtain ⟨rfl, rfl, rfl, rfl⟩ := msgA_inj hx
    have hno : ¬ EnvP (fE s) (tE s) false ⟨#[]⟩ ⟨#[]⟩ 0 ⟨#[]⟩ 0 0 ⟨#[]⟩ := fun c => absurd (show (0 : Nat) = 32 from c.2.2.2.1.1.1) (by decide)
    rw [envV_no hno]
    constructor
    · intro e
      exact absurd e (empty_ne s (by omega))
    · intro c
      exact absurd c.2.2.1 hm
  rw [rdMA_yes hm] at hx
  obtain ⟨rfl, rfl, rfl, rfl⟩ := msgA_inj hx
  by_cases hO : EnvP (fE s) (tE s) false ⟨#[]⟩ ⟨#[]⟩ 0 (cut (cut s 3 s.size) 0 32) (numOf (cut (cut s 3 s.size) 32 34).data.toList : Nat) (numOf (cut (cut s 3 s.size) 34 36).data.toList : Nat) (cut (cut s 3 s.size) 38 (cut s 3 s.size).size)
  case neg =>
    rw [envV_no hO]
    constructor
    · intro e
      exact absurd e (empty_ne s (by omega))
    · intro c
      exact absurd c.2.2.2 hO
  rw [envV_yes hO]
  have hB := (msgB_cut (cut s 3 s.size) hm.1 hm.2.2.2.2).2 hm.2.1
  have hall : cut s 0 1 ++ cut s 1 2 ++ cut s 2 3 ++ cut s 3 s.size = s := by
    rw [cut_cat s (by omega) (by omega), cut_cat s (by omega) (by omega), cut_cat s (by omega) (by omega), cut_all]
  have e0 : nb (fE s) 1 = cut s 0 1 := nb_cut1 s 0 (by omega)
  have e1 : nb (tE s) 1 = cut s 1 2 := nb_cut1 s 1 (by omega)
  unfold envB
  rw [hB, e0, e1]
  have e2 : hasB false ⟨#[]⟩ ⟨#[]⟩ 0 = ⟨#[0]⟩ := rfl
  rw [e2]
  constructor
  · intro e
    have e3 := e.trans hall.symm
    rw [ByteArray.append_left_inj, ByteArray.append_right_inj] at e3
    exact ⟨by omega, (mk0 s (by omega)).1 e3, hm, hO⟩
  · intro c
    rw [(mk0 s (by omega)).2 c.2.1]
    exact hall

theorem envV_T (s : ByteArray) (h : 107 ≤ s.size) (hz : nE s = 1) (u : ByteArray) (a b : Int) (x : ByteArray) (hx : rdMA (cut s 69 s.size) = msgA u a b x) :
    envV (fE s) (tE s) true (cut s 3 35) (cut s 35 67) (numOf (cut s 67 69).data.toList : Nat) u a b x = s ↔ RdET s := by
  have hms := cut_size s 69 s.size (Nat.le_refl _)
  by_cases hm : RdMP (cut s 69 s.size)
  case neg =>
    rw [rdMA_no hm] at hx
    obtain ⟨rfl, rfl, rfl, rfl⟩ := msgA_inj hx
    have hno : ¬ EnvP (fE s) (tE s) true (cut s 3 35) (cut s 35 67) (numOf (cut s 67 69).data.toList : Nat) ⟨#[]⟩ 0 0 ⟨#[]⟩ := fun c => absurd (show (0 : Nat) = 32 from c.2.2.2.1.1.1) (by decide)
    rw [envV_no hno]
    constructor
    · intro e
      exact absurd e (empty_ne s (by omega))
    · intro c
      exact absurd c.2.2.1 hm
  rw [rdMA_yes hm] at hx
  obtain ⟨rfl, rfl, rfl, rfl⟩ := msgA_inj hx
  by_cases hO : EnvP (fE s) (tE s) true (cut s 3 35) (cut s 35 67) (numOf (cut s 67 69).data.toList : Nat) (cut (cut s 69 s.size) 0 32) (numOf (cut (cut s 69 s.size) 32 34).data.toList : Nat) (numOf (cut (cut s 69 s.size) 34 36).data.toList : Nat) (cut (cut s 69 s.size) 38 (cut s 69 s.size).size)
  case neg =>
    rw [envV_no hO]
    constructor
    · intro e
      exact absurd e (empty_ne s (by omega))
    · intro c
      exact absurd c.2.2.2 hO
  rw [envV_yes hO]
  have hB := (msgB_cut (cut s 69 s.size) hm.1 hm.2.2.2.2).2 hm.2.1
  have hall : cut s 0 1 ++ cut s 1 2 ++ (cut s 2 3 ++ cut s 3 69) ++ cut s 69 s.size = s := by
    rw [cut_cat s (i := 2) (by omega) (by omega), cut_cat s (by omega) (by omega), cut_cat s (by omega) (by omega), cut_cat s (by omega) (by omega), cut_all]
  have e0 : nb (fE s) 1 = cut s 0 1 := nb_cut1 s 0 (by omega)
  have e1 : nb (tE s) 1 = cut s 1 2 := nb_cut1 s 1 (by omega)
  unfold envB
  rw [hB, e0, e1]
  have e2 : hasB true (cut s 3 35) (cut s 35 67) (numOf (cut s 67 69).data.toList : Nat) = cut s 2 3 ++ cut s 3 69 := by
    unfold hasB initB
    rw [if_pos rfl, nb_cut s 67 (by omega), cut_cat s (by omega) (by omega), cut_cat s (by omega) (by omega), mk1 s (by omega) hz]
  rw [e2]
  constructor
  · intro _
    exact ⟨by omega, hz, hm, hO⟩
  · intro _
    exact hall

theorem rdEF_size {s : ByteArray} (h : RdEF s) : 41 ≤ s.size := by
  have h1 := h.1
  have := h.2.2.1.1
  rw [cut_size s 3 s.size (Nat.le_refl _)] at this
  omega
theorem rdET_size {s : ByteArray} (h : RdET s) : 107 ≤ s.size := by
  have h1 := h.1
  have := h.2.2.1.1
  rw [cut_size s 69 s.size (Nat.le_refl _)] at this
  omega

end Go.Proofs.Ytmolcpojdojmlaa
