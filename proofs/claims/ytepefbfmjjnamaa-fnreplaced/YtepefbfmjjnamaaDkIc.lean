/- The program: an element put between others, whole; a list with a file. -/
import Derived.Test.YtepefbfmjjnamaaDkIb
namespace Go.Proofs.Ytepefbfmjjnamaa
open Go.RowKit Go.My Go.Lib
set_option linter.unusedVariables false

set_option maxRecDepth 20000 in
set_option maxHeartbeats 1000000 in
theorem insert_end (B : Nat) (v : Value) (l : List FileT) (x : FileT) (vb : Nat) (w : World) (h : FilesAt B v l w) (hBw : B ≤ w.heap.size) (hx : w.heap[vb]? = some (.cells #[.string x.1, .string x.2] 88 (0, 0))) (hl : l.length ≤ 1048576) :
    Calls Try.prog 122 #[v, .int .i64 l.length, .slice (some ⟨vb, 0, none⟩) 1 1] w fun e w' =>
      ∃ v', e = .returned v' ∧ FilesAt B v' (l ++ [x]) w' ∧ w.grownBy w' v.ownBlock := by
  obtain ⟨i0, hi, hz0, hz1, hz2⟩ := info_parts info_File
  have hnews : ∀ j u, [Value.string x.1, Value.string x.2][j]? = some u → w.cell? ((⟨vb, 0, none⟩ : Addr).add j) = some u := World.news_of_block (cs := #[.string x.1, .string x.2]) (t := 88) (fr := (0, 0)) hx
  obtain ⟨p, cap, rfl, hm, hcap, hp⟩ := h.open
  have hR : w.ownsRow B 88 2 (.slice p l.length cap) l.length (l.flatMap fileC) := h
  have hlI : (l.length : Int) ≤ 1048576 := by omega
  have HFL : Hid ((l ++ [x]).flatMap fileC = l.flatMap fileC ++ [.string x.1, .string x.2]) := by show _ = _; rw [List.flatMap_append]; simp [fileC]
  have hcm : cap ≤ maxLen := hm
  unfold maxLen at hcm
  clear h hm hx
  rcases hp with ⟨hL, rfl⟩ | ⟨g, rfl, _, hg⟩
  · subst hL
    obtain rfl : cap = 0 := by
      rcases hR.2 with ⟨hv, _⟩ | ⟨_, _, _, hv, _⟩
      · cases hv; rfl
      · cases hv
    go_enter Try.func122, Try.ntmps122
    go_wp2_with (at_builtin; refine wpList_append_lies _ rfl _ _ 24 rfl B 88 i0 (.agg #[.string ByteArray.empty, .string ByteArray.empty]) 2 32 Try.underlying24 hi hz0 hz1 hz2 rfl (by decide) (.slice none 0 0) 0 _ rfl hR ⟨vb, 0, none⟩ 1 1 [.string x.1, .string x.2] rfl rfl hnews (by simp [Value.oneCell']) (by omega) (by unfold maxLen; omega) (by omega) hBw w.heap.size rfl ?_; intro g2 cap2 w2 hown2 hgrow2 hat hlt2)
    have HF : Hid (FilesAt B (.slice (some ⟨g2, 0, none⟩) 1 cap2) ([] ++ [x]) w2) := by
      show World.ownsRow _ _ _ _ _ _ _
      rw [HFL.out]
      exact hown2
    clear hown2 hat hlt2
    go_ret
    exact ⟨_, rfl, HF.out, hgrow2⟩
  · go_enter Try.func122, Try.ntmps122
    go_wp2_with (at_builtin; refine wpList_append_lies _ rfl _ _ 24 rfl B 88 i0 (.agg #[.string ByteArray.empty, .string ByteArray.empty]) 2 32 Try.underlying24 hi hz0 hz1 hz2 rfl (by decide) (.slice (some ⟨g, 0, none⟩) l.length cap) l.length _ rfl hR ⟨vb, 0, none⟩ 1 1 [.string x.1, .string x.2] rfl rfl hnews (by simp [Value.oneCell']) (by omega) (by unfold maxLen; omega) (by omega) hBw w.heap.size rfl ?_; intro g2 cap2 w2 hown2 hgrow2 hat hlt2)
    all_goals (
      have HF : Hid (FilesAt B (.slice (some ⟨g2, 0, none⟩) (l.length + 1) cap2) (l ++ [x]) w2) := by
        show World.ownsRow _ _ _ _ _ _ _
        rw [HFL.out, List.length_append]
        exact hown2
      clear hown2 hat hlt2
      go_ret
      exact ⟨_, rfl, HF.out, hgrow2⟩)

theorem insertF_i (B : Nat) (v : Value) (l : List FileT) (i : Nat) (x : FileT) (vb : Nat) (w : World) (h : FilesAt B v l w) (hBw : B ≤ w.heap.size) (hvb : v.ownBlock ≠ some vb) (hx : w.heap[vb]? = some (.cells #[.string x.1, .string x.2] 88 (0, 0))) (hi : i ≤ l.length) (hl : l.length ≤ 1048576) :
    Calls Try.prog 122 #[v, .int .i64 i, .slice (some ⟨vb, 0, none⟩) 1 1] w fun e w' =>
      ∃ v', e = .returned v' ∧ FilesAt B v' (insL l i x) w' ∧ w.grownBy w' v.ownBlock := by
  by_cases hie : i = l.length
  · subst hie
    rw [insL_end]
    exact insert_end B v l x vb w h hBw hx hl
  · obtain ⟨p, cap, rfl, hm, hcap, hp⟩ := h.open
    have hne : l ≠ [] := by intro c; rw [c] at hi hie; simp at hi hie; omega
    obtain ⟨g, rfl, _, hg⟩ := hp.resolve_left (fun c => hne c.1)
    by_cases hr : l.length + 1 ≤ cap
    · refine (insert_in B g cap l i x vb w h (fun c => hvb (by rw [c]; rfl)) hx (by omega) hl hr).mono ?_
      rintro e w' ⟨rfl, h1, h2⟩
      exact ⟨_, rfl, h1, h2⟩
    · exact insert_new B g cap l i x vb w h hBw hx (by omega) hl (by omega)

end Go.Proofs.Ytepefbfmjjnamaa
