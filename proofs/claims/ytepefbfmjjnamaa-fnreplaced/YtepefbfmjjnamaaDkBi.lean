/- A disk in memory whose operations may begin anywhere in their block. -/
import Derived.Test.YtepefbfmjjnamaaDkB
namespace Go.Proofs.Ytepefbfmjjnamaa
open Go.RowKit Go.My Go.Lib
set_option linter.unusedVariables false

theorem add_off (b o k : Nat) : (⟨b, o, none⟩ : Addr).add k = ⟨b, o + k, none⟩ := by
  unfold Addr.add
  by_cases h : k = 0
  · subst h; rfl
  · rw [if_neg h]
def OpsIn (v : Value) (l : List DOpT) (w : World) : Prop :=
  ∃ p cap, v = .slice p l.length cap ∧ l.length ≤ cap ∧ cap ≤ maxLen ∧ (l = [] ∨ ∃ b o cs, p = some ⟨b, o, none⟩ ∧ w.heap[b]? = some (.cells cs 36 (0, 0)) ∧ ∀ i (hi : i < l.length) j u, (dOpC l[i])[j]? = some u → w.cell? ⟨b, o + (i * 4 + j), none⟩ = some u)
/-- Operations that lie elsewhere are as they were. -/
theorem OpsIn.kept {v : Value} {l : List DOpT} {w w' : World} {r : Option Nat} (h : OpsIn v l w) (hg : w.grownBy w' r) (hne : ∀ q cs, r = some q → w.heap[q]? ≠ some (.cells cs 36 (0, 0))) : OpsIn v l w' := by
  obtain ⟨p, cap, hv, h1, h2, h3⟩ := h
  refine ⟨p, cap, hv, h1, h2, ?_⟩
  rcases h3 with h3 | ⟨b, o, cs, hp, hh, hc⟩
  · exact .inl h3
  · have hb := hg.block b (Array.getElem?_eq_some_iff.1 hh).1 (fun c => hne b cs c.symm hh)
    refine .inr ⟨b, o, cs, hp, hb.trans hh, fun i hi j u hu => ?_⟩
    have hcc := hc i hi j u hu
    unfold World.cell? at hcc ⊢
    simp only [hb]
    exact hcc
theorem OpsIn.below {v : Value} {l : List DOpT} {w w' : World} (h : OpsIn v l w) (hb : Below w.heap.size w w') : OpsIn v l w' :=
  h.kept (r := none) ⟨hb.os, hb.tape, hb.output, hb.size, fun k hk _ => hb.block k hk⟩ (fun q cs c => by cases c)
theorem OpsIn.open {v : Value} {l : List DOpT} {w : World} (h : OpsIn v l w) : ∃ p cap, v = .slice p l.length cap ∧ cap ≤ maxLen ∧ l.length ≤ cap ∧ (l = [] ∨ ∃ g o, p = some ⟨g, o, none⟩) := by
  obtain ⟨p, cap, hv, h1, h2, h3⟩ := h
  refine ⟨p, cap, hv, h2, h1, ?_⟩
  rcases h3 with h3 | ⟨b, o, _, hp, _⟩
  · exact .inl h3
  · exact .inr ⟨b, o, hp⟩
theorem OpsIn.cell {g o cap n : Nat} {l : List DOpT} {w : World} (h : OpsIn (.slice (some ⟨g, o, none⟩) n cap) l w) {i : Nat} (hi : i < l.length) {j : Nat} {u : Value} (hu : (dOpC l[i])[j]? = some u) : w.cell? ⟨g, o + (i * 4 + j), none⟩ = some u := by
  obtain ⟨p, c, hv, _, _, h3⟩ := h
  injection hv with h4 h5 h6
  subst h4
  rcases h3 with rfl | ⟨b, o2, _, hp, _, hc⟩
  · simp at hi
  · injection hp with hp
    injection hp with hp1 hp2 _
    subst hp1 hp2
    exact hc i hi j u hu
theorem OpsIn.at {g o cap n : Nat} {l : List DOpT} {w : World} (h : OpsIn (.slice (some ⟨g, o, none⟩) n cap) l w) {j : Nat} (hj : j < l.length) {x : DOpT} (hx : l[j] = x) :
    w.cell? ⟨g, o + j * 4, none⟩ = some (.int .i64 x.1) ∧ w.cell? ⟨g, o + j * 4 + 1, none⟩ = some (.string x.2.1) ∧ w.cell? ⟨g, o + j * 4 + 2, none⟩ = some (.string x.2.2.1) ∧ w.cell? ⟨g, o + j * 4 + 3, none⟩ = some (.string x.2.2.2) := by
  subst hx
  exact ⟨h.cell hj (j := 0) rfl, h.cell hj (j := 1) rfl, h.cell hj (j := 2) rfl, h.cell hj (j := 3) rfl⟩
theorem OpsIn.cells {g o cap n : Nat} {l : List DOpT} {w : World} (h : OpsIn (.slice (some ⟨g, o, none⟩) n cap) l w) : ∀ j u, (l.flatMap dOpC)[j]? = some u → w.cell? ((⟨g, o, none⟩ : Addr).add j) = some u := by
  intro j u hu
  have hlt : j < l.length * 4 := by have := (List.getElem?_eq_some_iff.1 hu).1; rw [flat_len dOpC_len] at this; exact this
  have hq : j / 4 < l.length := by omega
  have e : j = 4 * (j / 4) + j % 4 := by omega
  have hu2 : (dOpC l[j / 4])[j % 4]? = some u := by rw [← flat_get dOpC_len l (j / 4) hq (j % 4) (by omega), ← e]; exact hu
  have hc := h.cell hq hu2
  have ha : (⟨g, o, none⟩ : Addr).add j = ⟨g, o + j, none⟩   := add_off g o j
  have h2 : o + j = o + (j / 4 * 4 + j % 4) := by omega
  rw [ha, h2]
  exact hc
theorem ops_toIn {B : Nat} {v : Value} {l : List DOpT} {w : World} (h : OpsAt B v l w) : OpsIn v l w := by
  obtain ⟨p, cap, rfl, h1, h2, h3⟩ := RowL.open h
  refine ⟨p, cap, rfl, h2, h1, ?_⟩
  rcases h3 with ⟨h3, _⟩ | ⟨g, rfl, _, hg⟩
  · exact .inl h3
  · have hblk : ∃ cs, w.heap[g]? = some (.cells cs 36 (0, 0)) := by
      rcases h.2 with ⟨hv, _⟩ | ⟨q, c2, cur, hv, _, hq, _⟩
      · cases hv
      · injection hv with hv1 hv2 hv3
        injection hv1 with hv1
        injection hv1 with hv1
        subst hv1
        exact ⟨cur, hq⟩
    obtain ⟨cs, hcs⟩ := hblk
    refine .inr ⟨g, 0, cs, rfl, hcs, fun i hi j u hu => ?_⟩
    have hj : j < 4 := (List.getElem?_eq_some_iff.1 hu).1
    rw [Nat.zero_add]
    exact RowL.at h dOpC_len hi rfl j hj hu
structure DiskIn (v1 v2 v3 : Value) (d : DiskT) (w : World) : Prop where
  live : FilesAt 0 v1 d.live w
  safe : FilesAt 0 v2 d.safe w
  ops : OpsIn v3 d.ops w
theorem DiskIn.below {v1 v2 v3 : Value} {d : DiskT} {w w' : World} (h : DiskIn v1 v2 v3 d w) (hb : Below w.heap.size w w') : DiskIn v1 v2 v3 d w' := ⟨h.live.below hb, h.safe.below hb, h.ops.below hb⟩
theorem DiskAt.toIn {B : Nat} {v1 v2 v3 : Value} {d : DiskT} {w : World} (h : DiskAt B v1 v2 v3 d w) : DiskIn v1 v2 v3 d w := ⟨h.live.mono (Nat.zero_le _), h.safe.mono (Nat.zero_le _), ops_toIn h.ops⟩

end Go.Proofs.Ytepefbfmjjnamaa
