import Derived.Test.YtjbgjdjmejhejaaGreatDoorRW1
import Derived.Test.YtjbgjdjmejhejaaGreatDoorRW5
import Derived.Lib.SmallJoins
import Derived.Deep.Strs
import Derived.Test.YtjbgjdjmejhejaaGreatDoorRW3
import Derived.Test.YtjbgjdjmejhejaaGreatDoorTie
import Derived.Test.YtjbgjdjmejhejaaGreatDoorCards
import Derived.ProofKit
import Derived.LaidMore
import Derived.OpenShut
import Derived.Stop.Joined
import Derived.Stop.LaidErr
import Derived.Lib.LaidTab
import Derived.Carry
set_option linter.unusedSimpArgs false
set_option linter.unusedVariables false
namespace Go.Proofs.YtjbgjdjmejhejaaGreatDoor
open Go.RowKit
theorem ptsS_len9 (S : SetV) (h : S.ints.length ≤ 1000 ∧ S.strs.length ≤ 1000) : (ptsS S).length ≤ 5000 := by
  unfold ptsS
  rw [List.length_append, List.length_map]
  have := flat_len ptsR 4 S.ints (fun x _ => ptsR_len x)
  omega
theorem ptsL_len9 (l : List SetV) (h : ∀ S ∈ l, S.ints.length ≤ 1000 ∧ S.strs.length ≤ 1000) : (ptsL l).length ≤ 4 + l.length * 5000 := by
  unfold ptsL
  rw [List.length_append]
  have := flat_len ptsS 5000 l (fun S hS => ptsS_len9 S (h S hS))
  have h4 : pts0.length = 4 := rfl
  omega
theorem wpList_appV {ops : Array Oper} {rest : List Oper} {o : Oper} {a : Act} {Q : Exit → Act → World → Prop} (w : World) (hgd : o.guard = none) (s x : Operand)
    (ho : o.op = .call { callee := .builtin .append, args := #[s, x], argTypes := #[45, 45] })
    (B : Nat) (v : Value) (l : List Va) (hs : a.eval s = v) (hown : OwnV w B v l) (g m c : Nat) (cs : Array Value) (news : List Va) (hm : news.length = m)
    (hx : a.eval x = .slice (some ⟨g, 0, none⟩) m c) (hb : w.heap[g]? = some (.cells cs 48 (0, 0))) (hcs : cs.toList = vaCells news) (hlen : l.length + m ≤ 1000000) (hB : B ≤ w.heap.size)
    (h : ∀ v' w', OwnV w' B v' (l ++ news) → Below B w w' → wpList Tryz.prog ops Q rest (a.put o.dst v') w') : wpList Tryz.prog ops Q (o :: rest) a w := by
  obtain ⟨i0, hi, hz0, hz1, hz2⟩ := info_parts infoVal
  refine wpList_append_own w hgd s x 45 ho B 48 i0 _ 3 32 Tryz.underlying45 hi hz0 hz1 hz2 rfl (by decide) v l.length (vaCells l) hs hown ⟨g, 0, none⟩ m c (vaCells news) hx (by rw [vaCells_len, hm]) ?_ (vaCells_one _) (by unfold maxLen; omega) (by omega) hB ?_
  · rw [← hcs]; exact World.news_of_block hb
  · intro v' w' h1 h2 _
    refine h v' w' ?_ (OwnV.grownB hown hB h2)
    unfold OwnV
    rw [List.length_append, hm, vaCells_append]
    exact h1
theorem wpList_appI {ops : Array Oper} {rest : List Oper} {o : Oper} {a : Act} {Q : Exit → Act → World → Prop} (w0 w : World) (hgd : o.guard = none) (s x : Operand)
    (ho : o.op = .call { callee := .builtin .append, args := #[s, x], argTypes := #[45, 45] })
    (R : Nat) (r : Rg) (v : Value) (l : List Va) (hs : a.eval s = v) (hin : InR w0 w R r v l) (g m c : Nat) (cs : Array Value) (news : List Va) (hm : news.length = m) (hm0 : 0 < m)
    (hx : a.eval x = .slice (some ⟨g, 0, none⟩) m c) (hb : w.heap[g]? = some (.cells cs 48 (0, 0))) (hcs : cs.toList = vaCells news) (hlen : l.length + m ≤ 1000000)
    (h : ∀ v' w', InR w0 w' R r v' (l ++ news) → wpList Tryz.prog ops Q rest (a.put o.dst v') w') : wpList Tryz.prog ops Q (o :: rest) a w := by
  obtain ⟨i0, hi, hz0, hz1, hz2⟩ := info_parts infoVal
  refine wpList_append_lies w hgd s x 45 ho w0.heap.size 48 i0 _ 3 32 Tryz.underlying45 hi hz0 hz1 hz2 rfl (by decide) v l.length (vaCells l) hs hin.own ⟨g, 0, none⟩ m c (vaCells news) hx (by rw [vaCells_len, hm]) ?_ (vaCells_one _) hm0 (by unfold maxLen; omega) (by omega) hin.below.size w.heap.size rfl ?_
  · rw [← hcs]; exact World.news_of_block hb
  · intro g' cap' w' h1 h2 h3 _
    refine h _ w' ⟨?_, ?_, ?_, hin.below.trans (OwnV.grownB hin.own hin.below.size h2)⟩
    · unfold OwnV
      rw [List.length_append, hm, vaCells_append]
      exact h1
    · rcases h3 with h3 | h3
      · show some g' ≠ some R
        rw [← h3]; exact hin.ne
      · intro e
        have e' : g' = R := by simpa [Value.ownBlock] using e
        have := lt_heap hin.rb
        omega
    · exact (h2.block R (lt_heap hin.rb) (fun e => hin.ne e.symm)).trans hin.rb
set_option maxHeartbeats 4000000 in
set_option maxRecDepth 100000 in
theorem refPoints_any (v : Value) (l : List SetV) (w : World) (hv : SetsAt w v l) (hn : l.length ≤ 100) (hfew : ∀ S ∈ l, S.ints.length ≤ 1000 ∧ S.strs.length ≤ 1000) :
    Calls Tryz.prog 22 #[v] w fun r w' => (∃ u t, r = .returned u ∧ FreshOut l ⟨#[126]⟩ t ∧ OwnV w' w.heap.size u (ptsL l ++ [(2, 0, t)])) ∧ Below w.heap.size w w' := by
  have HV := hide hv
  have HF := hide hfew
  obtain ⟨hlen, a, cap, rfl, hel⟩ := hv
  clear hel hfew
  obtain ⟨N, hN⟩ : ∃ N : Nat, N = l.length := ⟨_, rfl⟩
  rw [← hN] at hlen hn HV ⊢
  have HN := hide hN
  clear hN
  go_enter Tryz.func22, Tryz.ntmps22
  go_wp2
  go_loopw [3, 5] (fun o i wr => ∃ k : Nat, i = .int .i64 k ∧ k ≤ N ∧ Hid (OwnV wr w.heap.size o (pts0 ++ (l.take k).flatMap ptsS)) ∧ Hid (((l.take k).flatMap ptsS).length ≤ k * 5000) ∧ Hid (Below w.heap.size w wr)) (fun _ i _ => N - (intOf i).toNat)
  case atStart =>
    refine ⟨0, rfl, by omega, hide ?_, hide (by simp), hide ((Below.refl _ _).alloc (Nat.le_refl _) _)⟩
    exact ownV_new w _ (pts0 ++ []) rfl (by simp [pts0])
  case round =>
    obtain ⟨k, rfl, hk, HO, HL, HB⟩ := hrel
    by_cases hlt : k < N
    · have hk' : k < l.length := by rw [← HN.out]; exact hlt
      obtain ⟨b, off, vi, vs, rfl, hb, c0, c1, c2, c3, hI, hS⟩ := (HV.out.on HB.out).at.2 k hk'
      have hfs := HF.out (l.getD k noSet) (by rw [List.getD_eq_getElem?_getD, List.getElem?_eq_getElem hk']; exact List.getElem_mem _)
      have NX := hide (take_flat ptsS l k noSet hk')
      have SK : Hid (l.getD k noSet = l.getD k noSet) := hide rfl
      obtain ⟨S, hS0⟩ : ∃ S, S = l.getD k noSet := ⟨_, rfl⟩
      rw [← hS0] at NX hfs
      have HSk := hide hS0
      clear hS0 SK c0 c1 c2 c3 hI hS vi vs hb
      obtain ⟨sa, si, sc, ss⟩ := S
      dsimp only at *
      obtain ⟨nI, hnI⟩ : ∃ n : Nat, n = si.length := ⟨_, rfl⟩
      obtain ⟨nS, hnS⟩ : ∃ n : Nat, n = ss.length := ⟨_, rfl⟩
      rw [← hnI, ← hnS] at hfs
      have HnI := hide hnI
      have HnS := hide hnS
      clear hnI hnS
      obtain ⟨PL0, hPL0⟩ : ∃ p, p = pts0 ++ (l.take k).flatMap ptsS := ⟨_, rfl⟩
      rw [← hPL0] at HO
      have PL : Hid (PL0.length ≤ 4 + k * 5000) := hide (by have := HL.out; have h4 : pts0.length = 4 := rfl; rw [hPL0, List.length_append]; omega)
      have HPL := hide hPL0
      clear hPL0
      go_wp2
      go_loopw [3, 6] (fun o i wr' => ∃ j : Nat, i = .int .i64 j ∧ j ≤ nI ∧ Hid (OwnV wr' w.heap.size o (PL0 ++ (si.take j).flatMap ptsR)) ∧ Hid (((si.take j).flatMap ptsR).length ≤ j * 4) ∧ Hid (Below w.heap.size w wr')) (fun _ i _ => nI - (intOf i).toNat)
      case atStart => exact ⟨0, rfl, by omega, hide (by simpa using HO.out), hide (by simp), HB⟩
      case round =>
        clear HO HB
        obtain ⟨j, rfl, hj, HO', HL', HB'⟩ := hrel
        obtain ⟨b', off', vi, vs, ha, hb, c0, c1, c2, c3, hI, hS⟩ := (HV.out.on HB'.out).at.2 k hk'
        rw [← HSk.out] at c0 c2 hI hS
        dsimp only at c0 c2 hI hS
        simp at ha
        obtain ⟨rfl, rfl⟩ := ha
        obtain ⟨ai, ci, rfl⟩ := hI.form
        obtain ⟨aq, cq, rfl⟩ := hS.form
        have nIle := hI.2.1
        rw [← HnI.out] at c1 nIle
        rw [← HnS.out] at c3
        by_cases hjt : j < nI
        · have hj' : j < si.length := by rw [← HnI.out]; exact hjt
          obtain ⟨bi, oi, ha2, hbi, y0, y1⟩ := hI.at.2 j hj'
          subst ha2
          obtain ⟨q0, q1, q2, q3⟩ := hI.bound j hj'
          have NXI := hide (take_flat ptsR si j (0, 0) hj')
          generalize si.getD j (0, 0) = r at *
          clear hI hS
          have IN0 := hide (InR.start (r := r) HO'.out HB'.out)
          clear HO' HB'
          by_cases hlo : -9223372036854775808 < r.1
          · by_cases hhi : r.2 < 9223372036854775807
            · go_wp2_with (at_builtin; (first | (refine wpList_appI w _ rfl _ _ rfl wr.heap.size r _ _ rfl (IN0.out.alloc _) _ 2 2 _ [(1, r.1, noS), (1, r.2, noS)] rfl (by omega) rfl (two_at wr _ _) rfl (by have h1 := PL.out; have h2 := HL'.out; simp only [List.length_append, List.length_cons, List.length_nil]; omega) ?_; intro v1 w1 hw1; obtain ⟨zw10, zw11⟩ := hw1.cells; have IN1 := hide hw1; clear hw1 IN0) | (refine wpList_appI w _ rfl _ _ rfl wr.heap.size r _ _ rfl (IN1.out.alloc _) _ 1 1 _ [(1, r.1 - 1, noS)] rfl (by omega) rfl (heap_top _ _) rfl (by have h1 := PL.out; have h2 := HL'.out; simp only [List.length_append, List.length_cons, List.length_nil]; omega) ?_; intro v2 w2 hw2; obtain ⟨zw20, zw21⟩ := hw2.cells; have IN2 := hide hw2; clear hw2 IN1) | (refine wpList_appI w _ rfl _ _ rfl wr.heap.size r _ _ rfl (IN2.out.alloc _) _ 1 1 _ [(1, r.2 + 1, noS)] rfl (by omega) rfl (heap_top _ _) rfl (by have h1 := PL.out; have h2 := HL'.out; simp only [List.length_append, List.length_cons, List.length_nil]; omega) ?_; intro v3 w3 hw3; obtain ⟨zw30, zw31⟩ := hw3.cells; have IN3 := hide hw3; clear hw3 IN2)))
              refine ⟨⟨j + 1, by go_num, by omega, hide ?_, hide ?_, hide IN3.out.below⟩, by simp [intOf]; omega⟩
              · rw [NXI.out, ← List.append_assoc]
                have e : ptsR r = [(1, r.1, noS), (1, r.2, noS)] ++ [(1, r.1 - 1, noS)] ++ [(1, r.2 + 1, noS)] := by unfold ptsR; rw [if_pos hlo, if_pos hhi]
                rw [e]
                have h := IN3.out.own
                simp only [List.append_assoc] at h ⊢
                exact h
              · rw [NXI.out, List.length_append]
                have h1 := HL'.out
                have h2 := ptsR_len r
                omega
            · go_wp2_with (at_builtin; (first | (refine wpList_appI w _ rfl _ _ rfl wr.heap.size r _ _ rfl (IN0.out.alloc _) _ 2 2 _ [(1, r.1, noS), (1, r.2, noS)] rfl (by omega) rfl (two_at wr _ _) rfl (by have h1 := PL.out; have h2 := HL'.out; simp only [List.length_append, List.length_cons, List.length_nil]; omega) ?_; intro v1 w1 hw1; obtain ⟨zw10, zw11⟩ := hw1.cells; have IN1 := hide hw1; clear hw1 IN0) | (refine wpList_appI w _ rfl _ _ rfl wr.heap.size r _ _ rfl (IN1.out.alloc _) _ 1 1 _ [(1, r.1 - 1, noS)] rfl (by omega) rfl (heap_top _ _) rfl (by have h1 := PL.out; have h2 := HL'.out; simp only [List.length_append, List.length_cons, List.length_nil]; omega) ?_; intro v2 w2 hw2; obtain ⟨zw20, zw21⟩ := hw2.cells; have IN2 := hide hw2; clear hw2 IN1)))
              refine ⟨⟨j + 1, by go_num, by omega, hide ?_, hide ?_, hide IN2.out.below⟩, by simp [intOf]; omega⟩
              · rw [NXI.out, ← List.append_assoc]
                have e : ptsR r = [(1, r.1, noS), (1, r.2, noS)] ++ [(1, r.1 - 1, noS)] := by unfold ptsR; rw [if_pos hlo, if_neg hhi]; try simp
                rw [e]
                have h := IN2.out.own
                simp only [List.append_assoc] at h ⊢
                exact h
              · rw [NXI.out, List.length_append]
                have h1 := HL'.out
                have h2 := ptsR_len r
                omega
          · by_cases hhi : r.2 < 9223372036854775807
            · go_wp2_with (at_builtin; (first | (refine wpList_appI w _ rfl _ _ rfl wr.heap.size r _ _ rfl (IN0.out.alloc _) _ 2 2 _ [(1, r.1, noS), (1, r.2, noS)] rfl (by omega) rfl (two_at wr _ _) rfl (by have h1 := PL.out; have h2 := HL'.out; simp only [List.length_append, List.length_cons, List.length_nil]; omega) ?_; intro v1 w1 hw1; obtain ⟨zw10, zw11⟩ := hw1.cells; have IN1 := hide hw1; clear hw1 IN0) | (refine wpList_appI w _ rfl _ _ rfl wr.heap.size r _ _ rfl (IN1.out.alloc _) _ 1 1 _ [(1, r.2 + 1, noS)] rfl (by omega) rfl (heap_top _ _) rfl (by have h1 := PL.out; have h2 := HL'.out; simp only [List.length_append, List.length_cons, List.length_nil]; omega) ?_; intro v3 w3 hw3; obtain ⟨zw30, zw31⟩ := hw3.cells; have IN3 := hide hw3; clear hw3 IN1)))
              refine ⟨⟨j + 1, by go_num, by omega, hide ?_, hide ?_, hide IN3.out.below⟩, by simp [intOf]; omega⟩
              · rw [NXI.out, ← List.append_assoc]
                have e : ptsR r = [(1, r.1, noS), (1, r.2, noS)] ++ [(1, r.2 + 1, noS)] := by unfold ptsR; rw [if_neg hlo, if_pos hhi]; try simp
                rw [e]
                have h := IN3.out.own
                simp only [List.append_assoc] at h ⊢
                exact h
              · rw [NXI.out, List.length_append]
                have h1 := HL'.out
                have h2 := ptsR_len r
                omega
            · go_wp2_with (at_builtin; (first | (refine wpList_appI w _ rfl _ _ rfl wr.heap.size r _ _ rfl (IN0.out.alloc _) _ 2 2 _ [(1, r.1, noS), (1, r.2, noS)] rfl (by omega) rfl (two_at wr _ _) rfl (by have h1 := PL.out; have h2 := HL'.out; simp only [List.length_append, List.length_cons, List.length_nil]; omega) ?_; intro v1 w1 hw1; obtain ⟨zw10, zw11⟩ := hw1.cells; have IN1 := hide hw1; clear hw1 IN0)))
              refine ⟨⟨j + 1, by go_num, by omega, hide ?_, hide ?_, hide IN1.out.below⟩, by simp [intOf]; omega⟩
              · rw [NXI.out, ← List.append_assoc]
                have e : ptsR r = [(1, r.1, noS), (1, r.2, noS)] := by unfold ptsR; rw [if_neg hlo, if_neg hhi]; try simp
                rw [e]
                have h := IN1.out.own
                simp only [List.append_assoc] at h ⊢
                exact h
              · rw [NXI.out, List.length_append]
                have h1 := HL'.out
                have h2 := ptsR_len r
                omega
        · have hge : (nI : Int) ≤ (j : Int) := by omega
          obtain ⟨PL1, hPL1⟩ : ∃ p, p = PL0 ++ si.flatMap ptsR := ⟨_, rfl⟩
          have OWN1 : Hid (OwnV wr w.heap.size u3 PL1) := hide (by
            have h := HO'.out
            rw [List.take_of_length_le (by have := HnI.out; omega), ← hPL1] at h
            exact h)
          have PLE : Hid (PL1.length ≤ 4 + k * 5000 + nI * 4) := hide (by
            have h1 := PL.out
            have h2 := flat_len ptsR 4 si (fun x _ => ptsR_len x)
            rw [hPL1, List.length_append, HnI.out]; omega)
          have HPL1 := hide hPL1
          clear hPL1 HO' HL' hI
          go_wp2
          go_loopw [3, 8] (fun o i wr' => ∃ j : Nat, i = .int .i64 j ∧ j ≤ nS ∧ Hid (OwnV wr' w.heap.size o (PL1 ++ (ss.take j).map fun s => (2, 0, s))) ∧ Hid (Below w.heap.size w wr')) (fun _ i _ => nS - (intOf i).toNat)
          case atStart => exact ⟨0, rfl, by omega, hide (by simpa using OWN1.out), HB'⟩
          case round =>
            clear OWN1 HB' c0 c1 c2 c3 hS hb
            obtain ⟨i, rfl, hi, HO', HB'⟩ := hrel
            obtain ⟨b', off', vi, vs, ha, hb, c0, c1, c2, c3, hI, hS⟩ := (HV.out.on HB'.out).at.2 k hk'
            rw [← HSk.out] at c0 c2 hI hS
            dsimp only at c0 c2 hI hS
            simp at ha
            obtain ⟨rfl, rfl⟩ := ha
            obtain ⟨ai, ci, rfl⟩ := hI.form
            obtain ⟨aq, cq, rfl⟩ := hS.form
            have nSle := hS.2.1
            rw [← HnI.out] at c1
            rw [← HnS.out] at c3 nSle
            by_cases hit : i < nS
            · have hi' : i < ss.length := by rw [← HnS.out]; exact hit
              obtain ⟨bi, oi, ha2, hbi, y0⟩ := hS.at.2 i hi'
              subst ha2
              have NXS := hide (take_map (fun s => ((2, 0, s) : Va)) ss i ⟨#[]⟩ hi')
              generalize ss.getD i ⟨#[]⟩ = q at *
              have LE : Hid ((PL1 ++ (ss.take i).map fun s => ((2, 0, s) : Va)).length + 1 ≤ 1000000) := hide (by
                have h1 := PLE.out
                rw [List.length_append, List.length_map, List.length_take]
                omega)
              have szB := HB'.out.size
              clear hI hS
              go_wp2_with (at_builtin; refine wpList_appV _ rfl _ _ rfl w.heap.size _ _ rfl (HO'.out.alloc _) _ 1 1 _ [(2, 0, q)] rfl rfl (heap_top _ _) rfl LE.out (by simp; omega) ?_; intro v1 w1 hO1 hb1; have O1 := hide hO1; have B1 := hide ((HB'.out.alloc szB _).trans hb1); clear hO1 hb1)
              exact ⟨⟨i + 1, by go_num, by omega, hide (by rw [NXS.out, ← List.append_assoc]; exact O1.out), B1⟩, by simp [intOf]; omega⟩
            · have hge : (nS : Int) ≤ (i : Int) := by omega
              have OWN2 : Hid (OwnV wr w.heap.size u3 (pts0 ++ (l.take (k + 1)).flatMap ptsS)) := hide (by
                have h := HO'.out
                rw [List.take_of_length_le (by have := HnS.out; omega), HPL1.out, HPL.out] at h
                rw [NX.out]
                unfold ptsS
                simp only [List.append_assoc] at h ⊢
                exact h)
              have LE2 : Hid (((l.take (k + 1)).flatMap ptsS).length ≤ (k + 1) * 5000) := hide (by
                rw [NX.out, List.length_append]
                have h1 := HL.out
                have h2 := flat_len ptsR 4 si (fun x _ => ptsR_len x)
                have h3 := HnI.out
                have h4 := HnS.out
                have h5 : (ptsS ⟨sa, si, sc, ss⟩).length = (si.flatMap ptsR).length + ss.length := by unfold ptsS; rw [List.length_append, List.length_map]
                rw [h5]
                omega)
              clear HO' hI hS
              go_wp2
              exact ⟨⟨k + 1, by go_num, by omega, OWN2, LE2, HB'⟩, by simp [intOf]; omega⟩
    · have hge : (N : Int) ≤ (k : Int) := by omega
      have OWN3 : Hid (OwnV wr w.heap.size u3 (ptsL l)) := hide (by
        have h := HO.out
        rw [List.take_of_length_le (by have := HN.out; omega)] at h
        exact h)
      have LE3 : Hid ((ptsL l).length + 1 ≤ 1000000) := hide (by
        have h := HL.out
        rw [List.take_of_length_le (by have := HN.out; omega)] at h
        unfold ptsL
        have h4 : pts0.length = 4 := rfl
        rw [List.length_append]; omega)
      have X := hide (refFresh_any _ l ⟨#[126]⟩ wr (HV.out.on HB.out) (by decide))
      have szB := HB.out.size
      clear HO HL
      go_wp2_with fail
      refine (unhide X).mono ?_
      rintro r w1 ⟨⟨t, rfl, ht⟩, b1⟩
      have HT := hide ht
      have O1 := hide (OWN3.out.on b1)
      have B1 := hide (HB.out.trans (b1.mono szB))
      have szC := B1.out.size
      clear ht b1 X OWN3
      go_wp2_with (at_builtin; refine wpList_appV _ rfl _ _ rfl w.heap.size _ _ rfl (O1.out.alloc _) _ 1 1 _ [(2, 0, t)] rfl rfl (heap_top _ _) rfl LE3.out (by simp; omega) ?_; intro v1 w2 hO2 hb2; have O2 := hide hO2; have B2 := hide ((B1.out.alloc szC _).trans hb2); clear hO2 hb2)
      go_ret
      exact ⟨⟨_, t, rfl, HT.out, O2.out⟩, B2.out⟩
end Go.Proofs.YtjbgjdjmejhejaaGreatDoor
namespace Go.Proofs.YtjbgjdjmejhejaaGreatDoor
open Go.RowKit
end Go.Proofs.YtjbgjdjmejhejaaGreatDoor
namespace Go.Proofs.YtjbgjdjmejhejaaGreatDoor
open Go.RowKit
end Go.Proofs.YtjbgjdjmejhejaaGreatDoor
namespace Go.Proofs.YtjbgjdjmejhejaaGreatDoor
open Go.RowKit
section
variable {ops : Array Oper} {Q : Exit → Act → World → Prop} {o : Oper} {a : Act} {i : Nat} {K : Act → World → Prop}
theorem ot_row0Q {w : World} (hi : ops[i]? = some o) (hw : Region.wanted o (yielded ops a.tmps) = true) (ho : o.op = .buildSlice 39 0 #[])
    (h : ∀ W g, OwnT W w.heap.size (.slice (some ⟨g, 0, none⟩) 0 0) [] → Below w.heap.size w W → K (a.put o.dst (.slice (some ⟨g, 0, none⟩) 0 0)) W) : wpOp Tryz.prog ops Q i K a w := by
  refine ot_run hi hw (.slice (some ⟨w.heap.size, 0, none⟩) 0 0) (w.alloc (.cells #[] 26)) ?_ (h _ _ ⟨rfl, Or.inr ⟨w.heap.size, 0, #[], rfl, Nat.le_refl _, heap_new _ _, Nat.le_refl _, by unfold maxLen; omega, rfl, rfl⟩⟩ ((Below.refl _ w).alloc (Nat.le_refl _) _))
  simp only [execOp, ho, List.map_toArray, List.map_nil]
  go_simp
theorem ot_row1Q {w : World} (hi : ops[i]? = some o) (hw : Region.wanted o (yielded ops a.tmps) = true) (x : Operand) (ho : o.op = .buildSlice 39 1 #[(0, x)]) (d : SC) (hx : a.eval x = d.val)
    (h : ∀ W g, w.heap.size ≤ g → StIn W g d → Below w.heap.size w W → K (a.put o.dst (.slice (some ⟨g, 0, none⟩) 1 1)) W) : wpOp Tryz.prog ops Q i K a w :=
  ot_run hi hw _ _ (rn_row1Q a x ho d hx) (h _ _ (Nat.le_refl _) (heap_new _ _) ((Below.refl _ w).alloc (Nat.le_refl _) _))
theorem rn_appRowT {o : Oper} {w : World} (a : Act) (s x : Operand) (ho : o.op = .call { callee := .builtin .append, args := #[s, x], argTypes := #[39, 39] })
    (B : Nat) (v u : Value) (l m : List SC) (hs : a.eval s = v) (hown : OwnT w B v l) (hu : a.eval x = u) (hx : ScRow w u m) (hnil : nilOkQ u) (hlen : l.length + m.length ≤ 1000000) (hB : B ≤ w.heap.size) :
    ∃ v' w', (execOp a.eval o).run Tryz.prog w = .ok (.value v') w' ∧ OwnT w' B v' (l ++ m) ∧ w.grownBy w' v.ownBlock := by
  obtain ⟨i0, hi, hz0, hz1, hz2⟩ := info_parts cInfoT
  obtain ⟨_, ad, cap, rfl, hel⟩ := hx
  cases ad with
  | none =>
    have hm : m = [] := by
      cases m with
      | nil => rfl
      | cons r m =>
        obtain ⟨b, off, e, _⟩ := hel 0 (by simp)
        cases e
    subst hm
    have e0 := hnil _ _ rfl
    have hr := run_append_owned_none (P := Tryz.prog) (w := w) B 39 o.type 26 i0 4 Tryz.underlying39 hi v l.length (scCells l) hown
    refine ⟨v, w, ?_, by rw [List.append_nil]; exact hown, grown_refl _ _⟩
    rw [e0] at hu
    unfold execOp
    simp only [ho, resolve, invoke, builtin, Sem.run_bind, Sem.run_pure, Result.andThen_ok, List.map_toArray, List.map_cons, List.map_nil, hs, hu]
    rw [hr]
    rfl
  | some ad =>
    obtain ⟨v', w', hr, h2, h3, _⟩ := run_append_own (P := Tryz.prog) w B 39 o.type 26 i0 _ 4 64 Tryz.underlying39 hi hz0 hz1 hz2 rfl (by decide) v l.length (scCells l) hown ad m.length cap (scCells m) (by rw [scCells_len]) (fun j u hj => by
      have hjl : j < m.length * 4 := by
        have := (List.getElem?_eq_some_iff.1 hj).1
        rwa [scCells_len] at this
      obtain ⟨b, off, e, _, hr⟩ := hel (j / 4) (by omega)
      have h1 := scCells_at m (j / 4) (j % 4) (by omega) (Nat.mod_lt _ (by decide))
      simp at e
      subst e
      rw [Go.WideShapes.add_plain]
      rw [show j / 4 * 4 + j % 4 = j by omega, hj] at h1
      have := hr (j % 4) u h1.symm
      rwa [show off + j / 4 * 4 + j % 4 = off + j by omega] at this) (scCells_one _) (by unfold maxLen; omega) (by omega) hB
    refine ⟨v', w', ?_, ?_, h3⟩
    · unfold execOp
      simp only [ho, resolve, invoke, builtin, Sem.run_bind, Sem.run_pure, Result.andThen_ok, List.map_toArray, List.map_cons, List.map_nil, hs, hu, hr]
    · show w'.ownsRow B 26 4 v' (l ++ m).length (scCells (l ++ m))
      rw [List.length_append, scCells_append]
      exact h2
theorem ot_appRowT {w : World} (hi : ops[i]? = some o) (hw : Region.wanted o (yielded ops a.tmps) = true) (s x : Operand) (ho : o.op = .call { callee := .builtin .append, args := #[s, x], argTypes := #[39, 39] })
    (B : Nat) (v u : Value) (l m : List SC) (hs : a.eval s = v) (hown : OwnT w B v l) (hu : a.eval x = u) (hx : ScRow w u m) (hnil : nilOkQ u) (hlen : l.length + m.length ≤ 1000000) (hB : B ≤ w.heap.size)
    (h : ∀ v' W, OwnT W B v' (l ++ m) → w.grownBy W v.ownBlock → K (a.put o.dst v') W) : wpOp Tryz.prog ops Q i K a w := by
  obtain ⟨v', w', hr, h1, h2⟩ := rn_appRowT a s x ho B v u l m hs hown hu hx hnil hlen hB
  exact ot_run hi hw v' w' hr (h v' w' h1 h2)
end
theorem OwnT.below {w w' : World} {B : Nat} {v : Value} {l : List SC} (h : OwnT w B v l) (hB : B ≤ w.heap.size) (k : w.grownBy w' v.ownBlock) : Below B w w' := (Below.refl _ _).grown k hB (fun i hi => (World.ownsRow.lt h i hi).1)
end Go.Proofs.YtjbgjdjmejhejaaGreatDoor
namespace Go.Proofs.YtjbgjdjmejhejaaGreatDoor
open Go.RowKit
theorem few_sz {S : SetV} (h : fewB S = true) : ∀ s ∈ S.strs, s.size ≤ 100 := by
  unfold fewB at h
  simp only [Bool.and_eq_true, decide_eq_true_eq, List.all_eq_true] at h
  exact h.2
theorem cut_small {l : List SetV} (h : l.all fewB = true) (h2 : l.length ≤ 12) : ∀ S ∈ cutL l, S.ints.length ≤ 1000 ∧ S.strs.length ≤ 1000 := by
  intro S hS
  obtain ⟨i, hi, e⟩ := mem_getD noSet hS
  have h1 := cell_strs (B := sortedN (begL (allR l))) (N := namesOf (allS l)) hi
  have h3 : (namesOf (allS l)).length ≤ 480 := by
    refine Nat.le_trans (namesOf_len _) ?_
    have := allS_len l 40 (fun T hT => (few_len9 (List.all_eq_true.1 h T hT)).2)
    omega
  rw [show (cellL (sortedN (begL (allR l))) (namesOf (allS l))).getD i noSet = S from e] at h1
  omega
theorem cut_sz {l : List SetV} (hl : InL l) : ∀ S ∈ cutL l, ∀ s ∈ S.strs, s.size ≤ 8 := by
  intro S hS
  obtain ⟨i, hi, e⟩ := mem_getD noSet hS
  have h1 := cell_right (cut_of hl) hi
  rw [show (cellL (sortedN (begL (allR l))) (namesOf (allS l))).getD i noSet = S from e] at h1
  exact ((rightSet_iff S).1 h1).2.1
set_option maxHeartbeats 4000000 in
set_option maxRecDepth 100000 in
theorem cellsCut_law (v : Value) (l : List SetV) (w : World) (HE : Env w) (hv : SetsAt w v l) (hn0 : nilOkQ v) :
    Calls Tryz.prog 4 #[v] w fun r w' => r = .returned (.bool true) ∧ Below w.heap.size w w' := by
  have w6 : 2 ≤ w.heap.size := HE.big
  have HE0 := HE
  have hil := hv.inL
  obtain ⟨cs0, hR0, hA0⟩ := hv.row
  obtain ⟨a0, cap0, rfl, -⟩ := hv.2
  have hl64 := hv.1
  have D : w.grownBy w none := grown_refl _ _
  go_enter Tryz.func4, Tryz.ntmps4
  by_cases h10 : 12 < l.length
  · refine wp_seq_k (fun K1 hK1 => ?_)
    refine wp_region_lit ?_
    refine wl_yield (o := ⟨_, _, _, _, _, _⟩) (.bool false) (yl_assign (by rfl) _ rfl _ rfl) ?_
    simp only [Act.put, lzA, lzB, lzC]
    refine wpList_nil ?_
    refine hK1 _ _ ?_
    clear hK1 K1
    refine wp_seq_k (fun K2 hK2 => ?_)
    refine wp_seq_k (fun K3 hK3 => ?_)
    refine wp_region_lit ?_
    refine wt_call (o := ⟨_, _, _, _, _, _⟩) (by rfl) 16 _ _ rfl #[] rfl (run_call Tryz.func16 (by kernel_rfl) (by kernel_rfl)) ?_
    refine (awake9_any _ HE).mono ?_
    rintro r v1 ⟨rfl, kb⟩
    replace D := grown_below D kb
    replace HE := HE.on kb
    clear kb
    refine Or.inl ⟨.bool true, rfl, ?_⟩
    simp only [Act.put, lzA, lzB, lzC]
    refine wl_yield (o := ⟨_, _, _, _, _, _⟩) (.bool false) (yl_not (by rfl) _ _ rfl true rfl) ?_
    simp only [Act.put, lzA, lzB, lzC]
    refine wl_yield (o := ⟨_, _, _, _, _, _⟩) (.bool false) (yl_move (by rfl) _ rfl _ rfl) ?_
    simp only [Act.put, lzA, lzB, lzC]
    refine wl_yield (o := ⟨_, _, _, _, _, _⟩) (.slice a0 l.length cap0) (yl_move (by rfl) _ rfl _ rfl) ?_
    simp only [Act.put, lzA, lzB, lzC]
    refine wl_yield (o := ⟨_, _, _, _, _, _⟩) (.int .i64 (l.length : Nat)) (yt_lenQ (by rfl) _ rfl a0 l.length cap0 rfl) ?_
    simp only [Act.put, lzA, lzB, lzC]
    refine wl_yield (o := ⟨_, _, _, _, _, _⟩) (.bool true) (yt_gtrI (by rfl) _ _ _ rfl ((l.length : Nat) : Int) 12 true rfl rfl (decide_eq_true (by omega))) ?_
    simp only [Act.put, lzA, lzB, lzC]
    refine wl_yield (o := ⟨_, _, _, _, _, _⟩) (.bool true) (yl_pickF (by rfl) _ _ _ rfl rfl _ rfl) ?_
    simp only [Act.put, lzA, lzB, lzC]
    refine wl_yield (o := ⟨_, _, _, _, _, _⟩) (.bool true) (yl_move (by rfl) _ rfl _ rfl) ?_
    simp only [Act.put, lzA, lzB, lzC]
    with_reducible refine wl_yield (o := ⟨_, _, _, _, _, _⟩) undef (yl_undef (by kernel_rfl)) ?_
    simp only [Act.put, lzA, lzB, lzC]
    with_reducible refine wl_yield (o := ⟨_, _, _, _, _, _⟩) undef (yl_undef (by kernel_rfl)) ?_
    simp only [Act.put, lzA, lzB, lzC]
    with_reducible refine wl_yield (o := ⟨_, _, _, _, _, _⟩) undef (yl_undef (by kernel_rfl)) ?_
    simp only [Act.put, lzA, lzB, lzC]
    refine wl_yield (o := ⟨_, _, _, _, _, _⟩) (.bool true) (yl_pickT (by rfl) _ _ _ rfl rfl _ rfl) ?_
    simp only [Act.put, lzA, lzB, lzC]
    refine wpList_nil ?_
    refine hK3 _ _ ?_
    clear hK3 K3
    refine wp_cond_true rfl ?_
    refine wp_seq_k (fun K4 hK4 => ?_)
    refine wp_region_lit ?_
    refine wt_call (o := ⟨_, _, _, _, _, _⟩) (by rfl) 16 _ _ rfl #[] rfl (run_call Tryz.func16 (by kernel_rfl) (by kernel_rfl)) ?_
    refine (awake9_any _ HE).mono ?_
    rintro r v2 ⟨rfl, kb⟩
    replace D := grown_below D kb
    replace HE := HE.on kb
    clear kb
    refine Or.inl ⟨.bool true, rfl, ?_⟩
    simp only [Act.put, lzA, lzB, lzC]
    refine wl_yield (o := ⟨_, _, _, _, _, _⟩) (.bool true) (yl_assign (by rfl) _ rfl _ rfl) ?_
    simp only [Act.put, lzA, lzB, lzC]
    refine wpList_nil ?_
    refine hK4 _ _ ?_
    clear hK4 K4
    refine wp_ret ?_
    try simp only [Exit.inBlock, Exit.then]
    go_ret
    exact ⟨rfl, below_none D⟩
  · refine wp_seq_k (fun K1 hK1 => ?_)
    refine wp_region_lit ?_
    refine wl_yield (o := ⟨_, _, _, _, _, _⟩) (.bool false) (yl_assign (by rfl) _ rfl _ rfl) ?_
    simp only [Act.put, lzA, lzB, lzC]
    refine wpList_nil ?_
    refine hK1 _ _ ?_
    clear hK1 K1
    refine wp_seq_k (fun K2 hK2 => ?_)
    refine wp_seq_k (fun K3 hK3 => ?_)
    refine wp_region_lit ?_
    refine wt_call (o := ⟨_, _, _, _, _, _⟩) (by rfl) 16 _ _ rfl #[] rfl (run_call Tryz.func16 (by kernel_rfl) (by kernel_rfl)) ?_
    refine (awake9_any _ HE).mono ?_
    rintro r v1 ⟨rfl, kb⟩
    replace D := grown_below D kb
    replace HE := HE.on kb
    clear kb
    refine Or.inl ⟨.bool true, rfl, ?_⟩
    simp only [Act.put, lzA, lzB, lzC]
    refine wl_yield (o := ⟨_, _, _, _, _, _⟩) (.bool false) (yl_not (by rfl) _ _ rfl true rfl) ?_
    simp only [Act.put, lzA, lzB, lzC]
    refine wl_yield (o := ⟨_, _, _, _, _, _⟩) (.bool false) (yl_move (by rfl) _ rfl _ rfl) ?_
    simp only [Act.put, lzA, lzB, lzC]
    refine wl_yield (o := ⟨_, _, _, _, _, _⟩) (.slice a0 l.length cap0) (yl_move (by rfl) _ rfl _ rfl) ?_
    simp only [Act.put, lzA, lzB, lzC]
    refine wl_yield (o := ⟨_, _, _, _, _, _⟩) (.int .i64 (l.length : Nat)) (yt_lenQ (by rfl) _ rfl a0 l.length cap0 rfl) ?_
    simp only [Act.put, lzA, lzB, lzC]
    refine wl_yield (o := ⟨_, _, _, _, _, _⟩) (.bool false) (yt_gtrI (by rfl) _ _ _ rfl ((l.length : Nat) : Int) 12 false rfl rfl (decide_eq_false (by omega))) ?_
    simp only [Act.put, lzA, lzB, lzC]
    refine wl_yield (o := ⟨_, _, _, _, _, _⟩) (.bool false) (yl_pickF (by rfl) _ _ _ rfl rfl _ rfl) ?_
    simp only [Act.put, lzA, lzB, lzC]
    refine wl_yield (o := ⟨_, _, _, _, _, _⟩) (.bool false) (yl_move (by rfl) _ rfl _ rfl) ?_
    simp only [Act.put, lzA, lzB, lzC]
    refine wl_yield (o := ⟨_, _, _, _, _, _⟩) (.slice a0 l.length cap0) (yl_move (by rfl) _ rfl _ rfl) ?_
    simp only [Act.put, lzA, lzB, lzC]
    cases hfl : (l).all fewB
    · refine wt_call (o := ⟨_, _, _, _, _, _⟩) (by rfl) 17 _ _ rfl #[.slice a0 l.length cap0] rfl (run_call Tryz.func17 (by kernel_rfl) (by kernel_rfl)) ?_
      refine (refFew_any _ l _ (hv.on (below_none D))).mono ?_
      rintro r v2 (⟨rfl, e9⟩)
      · replace e9 := e9.symm
        subst e9
        refine Or.inl ⟨.bool false, ret_bool hfl, ?_⟩
        simp only [Act.put, lzA, lzB, lzC]
        refine wl_yield (o := ⟨_, _, _, _, _, _⟩) (.bool true) (yl_not (by rfl) _ _ rfl false rfl) ?_
        simp only [Act.put, lzA, lzB, lzC]
        refine wl_yield (o := ⟨_, _, _, _, _, _⟩) (.bool true) (yl_pickF (by rfl) _ _ _ rfl rfl _ rfl) ?_
        simp only [Act.put, lzA, lzB, lzC]
        refine wpList_nil ?_
        refine hK3 _ _ ?_
        clear hK3 K3
        refine wp_cond_true rfl ?_
        refine wp_seq_k (fun K4 hK4 => ?_)
        refine wp_region_lit ?_
        refine wt_call (o := ⟨_, _, _, _, _, _⟩) (by rfl) 16 _ _ rfl #[] rfl (run_call Tryz.func16 (by kernel_rfl) (by kernel_rfl)) ?_
        refine (awake9_any _ HE).mono ?_
        rintro r v3 ⟨rfl, kb⟩
        replace D := grown_below D kb
        replace HE := HE.on kb
        clear kb
        refine Or.inl ⟨.bool true, rfl, ?_⟩
        simp only [Act.put, lzA, lzB, lzC]
        refine wl_yield (o := ⟨_, _, _, _, _, _⟩) (.bool true) (yl_assign (by rfl) _ rfl _ rfl) ?_
        simp only [Act.put, lzA, lzB, lzC]
        refine wpList_nil ?_
        refine hK4 _ _ ?_
        clear hK4 K4
        refine wp_ret ?_
        try simp only [Exit.inBlock, Exit.then]
        go_ret
        exact ⟨rfl, below_none D⟩
    · have hfc := fewC_all hfl (show l.length ≤ 15 by omega)
      refine wt_call (o := ⟨_, _, _, _, _, _⟩) (by rfl) 17 _ _ rfl #[.slice a0 l.length cap0] rfl (run_call Tryz.func17 (by kernel_rfl) (by kernel_rfl)) ?_
      refine (refFew_any _ l _ (hv.on (below_none D))).mono ?_
      rintro r v2 (⟨rfl, e9⟩)
      · replace e9 := e9.symm
        subst e9
        refine Or.inl ⟨.bool true, ret_bool hfl, ?_⟩
        simp only [Act.put, lzA, lzB, lzC]
        refine wl_yield (o := ⟨_, _, _, _, _, _⟩) (.bool false) (yl_not (by rfl) _ _ rfl true rfl) ?_
        simp only [Act.put, lzA, lzB, lzC]
        refine wl_yield (o := ⟨_, _, _, _, _, _⟩) (.bool false) (yl_pickF (by rfl) _ _ _ rfl rfl _ rfl) ?_
        simp only [Act.put, lzA, lzB, lzC]
        refine wpList_nil ?_
        refine hK3 _ _ ?_
        clear hK3 K3
        refine wp_cond_false rfl ?_
        refine wp_skip ?_
        refine hK2 _ _ ?_
        clear hK2 K2
        refine wp_seq_k (fun K4 hK4 => ?_)
        refine wp_region_lit ?_
        refine wq_row0Q (o := ⟨_, _, _, _, _, _⟩) (by rfl) rfl (fun v3 g3 OT kb => ?_)
        simp only [Act.put, lzA, lzB, lzC]
        have mB := D.size
        have mV := kb.size
        replace D := grown_below D kb
        replace HE := HE.on kb
        clear kb
        refine wl_yield (o := ⟨_, _, _, _, _, _⟩) (.slice a0 l.length cap0) (yl_move (by rfl) _ rfl _ rfl) ?_
        simp only [Act.put, lzA, lzB, lzC]
        refine wpList_appRowT _ rfl _ _ rfl v1.heap.size _ _ [] cs0 rfl OT rfl (hR0.on (below_none D)) hn0 (by simp; have := hA0.1; omega) mV ?_
        intro v4' v4 OT' kB
        simp only [Act.put, lzA, lzB, lzC]
        replace OT := OT'
        clear OT'
        rw [List.nil_append] at OT
        replace D := grown_none ((below_none D).trans (kB.mono mB))
        replace HE := HE.below (by have := HE0.big; omega) kB
        clear kB
        refine wt_call (o := ⟨_, _, _, _, _, _⟩) (by rfl) 18 _ _ rfl #[v4'] rfl (run_call Tryz.func18 (by kernel_rfl) (by kernel_rfl)) ?_
        refine (cut_any _ l _ (sets_of_row (OwnT.row OT (by have := hA0.1; omega)) (hA0.on (below_none D))) hfc).mono ?_
        rintro r v5 (⟨⟨u, rfl, HC⟩, kb⟩)
        · replace D := grown_below D kb
          replace HE := HE.on kb
          clear kb
          obtain ⟨a5, cap5, rfl⟩ : ∃ a5 cap5, u = .slice a5 (cutL l).length cap5 := by
            obtain ⟨q, e1, e2⟩ := HC.form
            exact ⟨q.p, q.c, by rw [e1]; unfold Sl.val; rw [e2]⟩
          have HS := HC.sets (Kept.refl _ _)
          clear HC
          have hmost := cutL_most hfc
          have hfit := fit_cut hil hfc
          have D2 : v5.grownBy v5 none := grown_refl _ _
          refine Or.inl ⟨.slice a5 (cutL l).length cap5, rfl, ?_⟩
          simp only [Act.put, lzA, lzB, lzC]
          refine wl_yield (o := ⟨_, _, _, _, _, _⟩) (.slice a5 (cutL l).length cap5) (yl_assign (by rfl) _ rfl _ rfl) ?_
          simp only [Act.put, lzA, lzB, lzC]
          refine wpList_nil ?_
          refine hK4 _ _ ?_
          clear hK4 K4
          refine wp_seq_k (fun K5 hK5 => ?_)
          refine wp_seq_k (fun K6 hK6 => ?_)
          refine wp_region_lit ?_
          refine wl_yield (o := ⟨_, _, _, _, _, _⟩) (.slice a5 (cutL l).length cap5) (yl_move (by rfl) _ rfl _ rfl) ?_
          simp only [Act.put, lzA, lzB, lzC]
          refine wl_yield (o := ⟨_, _, _, _, _, _⟩) (.slice a0 l.length cap0) (yl_move (by rfl) _ rfl _ rfl) ?_
          simp only [Act.put, lzA, lzB, lzC]
          refine wt_call (o := ⟨_, _, _, _, _, _⟩) (by rfl) 20 _ _ rfl #[.slice a0 l.length cap0] rfl (run_call Tryz.func20 (by kernel_rfl) (by kernel_rfl)) ?_
          refine (refCut_any _ l _ (hv.on (below_none D)) hfc).mono ?_
          rintro r v6 (⟨⟨u6, rfl, HR⟩, kb⟩)
          · replace D := grown_below D kb
            replace HE := HE.on kb
            replace D2 := grown_below D2 kb
            clear kb
            have HR1 := HR
            obtain ⟨a6, cap6, rfl, -⟩ := HR1.2
            clear HR1
            refine Or.inl ⟨.slice a6 (cutL l).length cap6, rfl, ?_⟩
            simp only [Act.put, lzA, lzB, lzC]
            refine wt_call (o := ⟨_, _, _, _, _, _⟩) (by rfl) 19 _ _ rfl #[.slice a5 (cutL l).length cap5, .slice a6 (cutL l).length cap6] rfl (run_call Tryz.func19 (by kernel_rfl) (by kernel_rfl)) ?_
            refine (sameAll_any _ _ (cutL l) _ (HS.on (below_none D2)) HR).mono ?_
            rintro r v7 (⟨rfl, kb⟩)
            · replace D := grown_below D kb
              replace HE := HE.on kb
              replace D2 := grown_below D2 kb
              clear kb
              refine Or.inl ⟨.bool true, rfl, ?_⟩
              simp only [Act.put, lzA, lzB, lzC]
              refine wl_yield (o := ⟨_, _, _, _, _, _⟩) (.bool false) (yl_not (by rfl) _ _ rfl true rfl) ?_
              simp only [Act.put, lzA, lzB, lzC]
              refine wpList_nil ?_
              refine hK6 _ _ ?_
              clear hK6 K6
              refine wp_cond_false rfl ?_
              refine wp_skip ?_
              refine hK5 _ _ ?_
              clear hK5 K5
              refine wp_seq_k (fun K7 hK7 => ?_)
              refine wp_seq_k (fun K8 hK8 => ?_)
              refine wp_region_lit ?_
              refine wl_yield (o := ⟨_, _, _, _, _, _⟩) (.slice a0 l.length cap0) (yl_move (by rfl) _ rfl _ rfl) ?_
              simp only [Act.put, lzA, lzB, lzC]
              refine wl_yield (o := ⟨_, _, _, _, _, _⟩) (.int .i64 (l.length : Nat)) (yt_lenQ (by rfl) _ rfl a0 l.length cap0 rfl) ?_
              simp only [Act.put, lzA, lzB, lzC]
              refine wl_yield (o := ⟨_, _, _, _, _, _⟩) (.int .i64 0) (yl_move (by rfl) _ rfl _ rfl) ?_
              simp only [Act.put, lzA, lzB, lzC]
              refine wpList_nil ?_
              refine hK8 _ _ ?_
              clear hK8 K8
              refine wp_block ?_
              have hsmall := cut_small hfl (show l.length ≤ 12 by omega)
              have hszc := cut_sz hil
              have hsm : ∀ j, j < (cutL l).length → ∃ q, sampleV ((cutL l).getD j noSet) = some q := fun j hj => cell_sample (cut_of hil) hj
              go_loopw [34] (fun i wr => ∃ (k : Nat), i = .int .i64 ((k : Nat) : Int) ∧ k ≤ l.length ∧ Env wr ∧ v5.grownBy wr none ∧ w.grownBy wr none) (fun i _ => l.length - (intOf i).toNat)
              case atStart => exact ⟨0, rfl, Nat.zero_le _, HE, D2, D⟩
              case round =>
                clear D D2 HE
                obtain ⟨k, rfl, hk, HE, D2, D⟩ := hrel
                by_cases hlt : k < l.length
                · have hSm : l.getD k noSet ∈ l := gD_mem hlt
                  obtain ⟨gI, oI, vi, vs, rfl, hgI, C0, C1, C2, C3, hI, hT⟩ := hv.at.2 k hlt
                  generalize hS : l.getD k noSet = S at C0 C2 hI hT hSm
                  obtain ⟨ai, ci, rfl⟩ := hI.form
                  obtain ⟨az, cz, rfl⟩ := hT.form
                  have hfS1 := List.all_eq_true.1 hfl S hSm
                  have cellD := fun (W : World) (D : w.grownBy W none) (j : Nat) => (below_none D).cell (p := ⟨gI, j, none⟩) hgI
                  refine wp_seq_k (fun K9 hK9 => ?_)
                  refine wp_region_lit ?_
                  refine wl_yield (o := ⟨_, _, _, _, _, _⟩) (.bool true) (yt_lssI (by rfl) _ _ _ rfl ((k : Nat) : Int) ((l.length : Nat) : Int) true rfl rfl (decide_eq_true (by omega))) ?_
                  simp only [Act.put, lzA, lzB, lzC]
                  refine wpList_nil ?_
                  refine hK9 _ _ ?_
                  clear hK9 K9
                  refine wp_seq_k (fun K10 hK10 => ?_)
                  refine wp_cond_true rfl ?_
                  refine wp_skip ?_
                  refine hK10 _ _ ?_
                  clear hK10 K10
                  refine wp_seq_k (fun K11 hK11 => ?_)
                  refine wp_block ?_
                  refine wp_seq_k (fun K12 hK12 => ?_)
                  refine wp_region_lit ?_
                  refine wl_yield (o := ⟨_, _, _, _, _, _⟩) (.pointer (some ⟨gI, oI + k * 4, none⟩)) (yt_atQ (by rfl) _ _ rfl gI oI _ _ k rfl rfl (hlt)) ?_
                  simp only [Act.put, lzA, lzB, lzC]
                  refine wl_yield (o := ⟨_, _, _, _, _, _⟩) (.agg #[.bool (S.absent), .slice ai S.ints.length ci, .bool (S.co), .slice az S.strs.length cz]) (yl_set (by rfl) _ rfl _ _ rfl _ _ _ _ (fun _ h => by subst h; exact ⟨(cellD _ D _).trans C0, (cellD _ D _).trans C1, (cellD _ D _).trans C2, (cellD _ D _).trans C3⟩)) ?_
                  simp only [Act.put, lzA, lzB, lzC]
                  refine wt_allocSt (o := ⟨_, _, _, _, _, _⟩) (by rfl) rfl (fun v8 g8 hg G8 kb => ?_)
                  simp only [Act.put, lzA, lzB, lzC]
                  have ge_g8 : w.heap.size ≤ g8 := Nat.le_trans D.size hg
                  have ge_D2_g8 : v5.heap.size ≤ g8 := Nat.le_trans D2.size hg
                  have six_g8 : 2 ≤ g8 := Nat.le_trans w6 ge_g8
                  clear hg
                  replace D := grown_below D kb
                  replace HE := HE.on kb
                  replace D2 := grown_below D2 kb
                  clear kb
                  replace G8 : v8.heap[g8]? = some (.cells #[.bool false, .slice none 0 0, .bool false, .slice none 0 0] 26 (0, 0)) := G8
                  refine wt_putSt (o := ⟨_, _, _, _, _, _⟩) rfl _ _ rfl _ rfl (⟨S.absent, ai, S.ints.length, ci, S.co, az, S.strs.length, cz⟩) rfl G8 rfl (fun v9 X kg => ?_)
                  simp only [Act.put, lzA, lzB, lzC]
                  replace D := gr_new D ge_g8 kg
                  replace HE := Env.gr HE kg six_g8
                  replace D2 := gr_new D2 ge_D2_g8 kg
                  clear kg
                  replace G8 : v9.heap[g8]? = some (.cells #[.bool (S.absent), .slice ai S.ints.length ci, .bool (S.co), .slice az S.strs.length cz] 26 (0, 0)) := X
                  clear X
                  refine wpList_nil ?_
                  refine hK12 _ _ ?_
                  clear hK12 K12
                  refine wp_seq_k (fun K13 hK13 => ?_)
                  refine wp_seq_k (fun K14 hK14 => ?_)
                  refine wp_region_lit ?_
                  refine wl_yield (o := ⟨_, _, _, _, _, _⟩) (.agg #[.bool (S.absent), .slice ai S.ints.length ci, .bool (S.co), .slice az S.strs.length cz]) (yl_set (by rfl) _ rfl _ 0 rfl _ _ _ _ (fun _ h => by subst h; exact ⟨cell_heap G8 0, cell_heap G8 1, cell_heap G8 2, cell_heap G8 3⟩)) ?_
                  simp only [Act.put, lzA, lzB, lzC]
                  cases hr : rightSet S
                  · refine wt_call (o := ⟨_, _, _, _, _, _⟩) (by rfl) 21 _ _ rfl #[.agg #[.bool (S.absent), .slice ai S.ints.length ci, .bool (S.co), .slice az S.strs.length cz]] rfl (run_call Tryz.func21 (by kernel_rfl) (by kernel_rfl)) ?_
                    refine (refRightSet_any _ S _ (show SetAt _ (SC.val ⟨S.absent, ai, S.ints.length, ci, S.co, az, S.strs.length, cz⟩) S from ⟨_, _, rfl, hI.on (below_none D), hT.on (below_none D)⟩)).mono ?_
                    rintro r v10 (⟨rfl, kb⟩)
                    · replace D := grown_below D kb
                      replace HE := HE.on kb
                      replace D2 := grown_below D2 kb
                      replace G8 := heap_on G8 kb
                      clear kb
                      refine Or.inl ⟨.bool false, ret_bool hr, ?_⟩
                      simp only [Act.put, lzA, lzB, lzC]
                      refine wl_yield (o := ⟨_, _, _, _, _, _⟩) (.bool true) (yl_not (by rfl) _ _ rfl false rfl) ?_
                      simp only [Act.put, lzA, lzB, lzC]
                      refine wpList_nil ?_
                      refine hK14 _ _ ?_
                      clear hK14 K14
                      refine wp_cond_true rfl ?_
                      refine wp_exit ?_
                      refine hK11 _ _ ?_
                      clear hK13 K13 hK11 K11
                      refine wp_region_lit ?_
                      refine wl_yield (o := ⟨_, _, _, _, _, _⟩) (.int .i64 (k + 1 : Nat)) (yt_addI (by rfl) _ _ _ rfl ((k : Nat) : Int) 1 ((k + 1 : Nat) : Int) rfl rfl (by omega) (by omega) (by omega)) ?_
                      simp only [Act.put, lzA, lzB, lzC]
                      refine wl_yield (o := ⟨_, _, _, _, _, _⟩) (.int .i64 (k + 1 : Nat)) (yl_move (by rfl) _ rfl _ rfl) ?_
                      simp only [Act.put, lzA, lzB, lzC]
                      refine wpList_nil ?_
                      show _ ∧ _
                      go_roundw
                      case rel => exact ⟨k + 1, rfl, by omega, HE, D2, D⟩
                      case measure => simp [intOf]; omega
                  · refine wt_call (o := ⟨_, _, _, _, _, _⟩) (by rfl) 21 _ _ rfl #[.agg #[.bool (S.absent), .slice ai S.ints.length ci, .bool (S.co), .slice az S.strs.length cz]] rfl (run_call Tryz.func21 (by kernel_rfl) (by kernel_rfl)) ?_
                    refine (refRightSet_any _ S _ (show SetAt _ (SC.val ⟨S.absent, ai, S.ints.length, ci, S.co, az, S.strs.length, cz⟩) S from ⟨_, _, rfl, hI.on (below_none D), hT.on (below_none D)⟩)).mono ?_
                    rintro r v10 (⟨rfl, kb⟩)
                    · replace D := grown_below D kb
                      replace HE := HE.on kb
                      replace D2 := grown_below D2 kb
                      replace G8 := heap_on G8 kb
                      clear kb
                      refine Or.inl ⟨.bool true, ret_bool hr, ?_⟩
                      simp only [Act.put, lzA, lzB, lzC]
                      refine wl_yield (o := ⟨_, _, _, _, _, _⟩) (.bool false) (yl_not (by rfl) _ _ rfl true rfl) ?_
                      simp only [Act.put, lzA, lzB, lzC]
                      refine wpList_nil ?_
                      refine hK14 _ _ ?_
                      clear hK14 K14
                      refine wp_cond_false rfl ?_
                      refine wp_skip ?_
                      refine hK13 _ _ ?_
                      clear hK13 K13
                      refine wp_seq_k (fun K15 hK15 => ?_)
                      refine wp_region_lit ?_
                      refine wl_yield (o := ⟨_, _, _, _, _, _⟩) (.slice a5 (cutL l).length cap5) (yl_move (by rfl) _ rfl _ rfl) ?_
                      simp only [Act.put, lzA, lzB, lzC]
                      refine wl_yield (o := ⟨_, _, _, _, _, _⟩) (.int .i64 ((cutL l).length : Nat)) (yt_lenQ (by rfl) _ rfl a5 (cutL l).length cap5 rfl) ?_
                      simp only [Act.put, lzA, lzB, lzC]
                      refine wl_yield (o := ⟨_, _, _, _, _, _⟩) (.int .i64 0) (yl_move (by rfl) _ rfl _ rfl) ?_
                      simp only [Act.put, lzA, lzB, lzC]
                      refine wpList_nil ?_
                      refine hK15 _ _ ?_
                      clear hK15 K15
                      refine wp_block ?_
                      have hfS : Fit S := fit_few hr hI.1 hfS1
                      go_loopw [43] (fun i wr => ∃ (j : Nat), i = .int .i64 ((j : Nat) : Int) ∧ j ≤ (cutL l).length ∧ wr.heap[g8]? = some (.cells #[.bool (S.absent), .slice ai S.ints.length ci, .bool (S.co), .slice az S.strs.length cz] 26 (0, 0)) ∧ Env wr ∧ v5.grownBy wr none ∧ w.grownBy wr none) (fun i _ => (cutL l).length - (intOf i).toNat)
                      case atStart => exact ⟨0, rfl, Nat.zero_le _, G8, HE, D2, D⟩
                      case round =>
                        clear D D2 HE G8
                        obtain ⟨j, rfl, hj, G8, HE, D2, D⟩ := hrel
                        by_cases hlj : j < (cutL l).length
                        · obtain ⟨q, hq⟩ := hsm j hlj
                          have hYm : (cutL l).getD j noSet ∈ cutL l := gD_mem hlj
                          have hfk := hfit _ hYm
                          have hsk := hsmall _ hYm
                          have hzk := hszc _ hYm
                          have hqh := sample_has hq (by have := hfk.ns; omega)
                          obtain ⟨gA, oA, vi', vs', rfl, hgA, A0, A1, A2, A3, hI9, hT9⟩ := HS.at.2 j hlj
                          have cellA := fun (W : World) (D : v5.grownBy W none) (j : Nat) => (below_none D).cell (p := ⟨gA, j, none⟩) hgA
                          obtain ⟨ai', ci', rfl⟩ := hI9.form
                          obtain ⟨az', cz', rfl⟩ := hT9.form
                          have hqm := hasP_max hqh
                          generalize hX9 : (cutL l).getD j noSet = Y9 at A0 A1 A2 A3 hI9 hT9 hq hqh hfk hsk hzk
                          refine wp_seq_k (fun K16 hK16 => ?_)
                          refine wp_region_lit ?_
                          refine wl_yield (o := ⟨_, _, _, _, _, _⟩) (.bool true) (yt_lssI (by rfl) _ _ _ rfl ((j : Nat) : Int) (((cutL l).length : Nat) : Int) true rfl rfl (decide_eq_true (by omega))) ?_
                          simp only [Act.put, lzA, lzB, lzC]
                          refine wpList_nil ?_
                          refine hK16 _ _ ?_
                          clear hK16 K16
                          refine wp_seq_k (fun K17 hK17 => ?_)
                          refine wp_cond_true rfl ?_
                          refine wp_skip ?_
                          refine hK17 _ _ ?_
                          clear hK17 K17
                          refine wp_seq_k (fun K18 hK18 => ?_)
                          refine wp_block ?_
                          refine wp_seq_k (fun K19 hK19 => ?_)
                          refine wp_region_lit ?_
                          refine wl_yield (o := ⟨_, _, _, _, _, _⟩) (.pointer (some ⟨gA, oA + j * 4, none⟩)) (yt_atQ (by rfl) _ _ rfl gA oA _ _ j rfl rfl (hlj)) ?_
                          simp only [Act.put, lzA, lzB, lzC]
                          refine wl_yield (o := ⟨_, _, _, _, _, _⟩) (.agg #[.bool (Y9.absent), .slice ai' Y9.ints.length ci', .bool (Y9.co), .slice az' Y9.strs.length cz']) (yl_set (by rfl) _ rfl _ _ rfl _ _ _ _ (fun _ h => by subst h; exact ⟨(cellA _ D2 _).trans A0, (cellA _ D2 _).trans A1, (cellA _ D2 _).trans A2, (cellA _ D2 _).trans A3⟩)) ?_
                          simp only [Act.put, lzA, lzB, lzC]
                          refine wt_allocSt (o := ⟨_, _, _, _, _, _⟩) (by rfl) rfl (fun v11 g11 hg G11 kb => ?_)
                          simp only [Act.put, lzA, lzB, lzC]
                          have n_g8_g11 : g8 ≠ g11 := by have := lt_heap G8; omega
                          have ge_g11 : w.heap.size ≤ g11 := Nat.le_trans D.size hg
                          have ge_D2_g11 : v5.heap.size ≤ g11 := Nat.le_trans D2.size hg
                          have six_g11 : 2 ≤ g11 := Nat.le_trans w6 ge_g11
                          clear hg
                          replace D := grown_below D kb
                          replace HE := HE.on kb
                          replace D2 := grown_below D2 kb
                          replace G8 := heap_on G8 kb
                          clear kb
                          replace G11 : v11.heap[g11]? = some (.cells #[.bool false, .slice none 0 0, .bool false, .slice none 0 0] 26 (0, 0)) := G11
                          refine wt_putSt (o := ⟨_, _, _, _, _, _⟩) rfl _ _ rfl _ rfl (⟨Y9.absent, ai', Y9.ints.length, ci', Y9.co, az', Y9.strs.length, cz'⟩) rfl G11 rfl (fun v12 X kg => ?_)
                          simp only [Act.put, lzA, lzB, lzC]
                          replace D := gr_new D ge_g11 kg
                          replace HE := Env.gr HE kg six_g11
                          replace D2 := gr_new D2 ge_D2_g11 kg
                          replace G8 := heap_gr G8 kg n_g8_g11
                          clear kg
                          replace G11 : v12.heap[g11]? = some (.cells #[.bool (Y9.absent), .slice ai' Y9.ints.length ci', .bool (Y9.co), .slice az' Y9.strs.length cz'] 26 (0, 0)) := X
                          clear X
                          refine wpList_nil ?_
                          refine hK19 _ _ ?_
                          clear hK19 K19
                          refine wp_seq_k (fun K20 hK20 => ?_)
                          have hpts : ∀ T ∈ l ++ [Y9], T.ints.length ≤ 1000 ∧ T.strs.length ≤ 1000 := fun T hT => by
                            rcases List.mem_append.1 hT with hT | hT
                            · have := few_len9 (List.all_eq_true.1 hfl T hT); omega
                            · rw [List.mem_singleton.1 hT]; exact hsk
                          have hptz : ∀ T ∈ l ++ [Y9], ∀ s ∈ T.strs, s.size ≤ maxLen := fun T hT s hs => by
                            rcases List.mem_append.1 hT with hT | hT
                            · have := few_sz (List.all_eq_true.1 hfl T hT) s hs; unfold maxLen; omega
                            · rw [List.mem_singleton.1 hT] at hs; have := hzk s hs; unfold maxLen; omega
                          have hS9_g11 := lt_heap G11
                          have hS9_g8 := lt_heap G8
                          have m9 := D.size
                          have m29 := D2.size
                          have D4 : v12.grownBy v12 none := grown_refl _ _
                          refine wp_region_late (S := fun w' => w'.heap[g11]? = some (.cells #[.bool (Y9.absent), .slice ai' Y9.ints.length ci', .bool (Y9.co), .slice az' Y9.strs.length cz'] 26 (0, 0))) (late := fun j => [].contains j) (by kernel_rfl) ?_
                          have kb : Below v12.heap.size v12 v12.drew := (Below.refl _ v12).drew
                          replace D := grown_below D kb
                          replace HE := HE.on kb
                          replace D2 := grown_below D2 kb
                          replace G8 := heap_on G8 kb
                          replace G11 := heap_on G11 kb
                          replace D4 := grown_below D4 kb
                          clear kb
                          generalize v12.drew = v13 at D HE D2 G8 G11 D4 ⊢
                          refine wpAnyL_pure (i := 1) (oi := ⟨_, _, _, _, _, _⟩) (v := .slice (some ⟨gI, oI, none⟩) l.length cap0) rfl (by kernel_rfl) (by kernel_rfl) (by kernel_rfl) (fun _ _ _ h => h) (yl_move (by rfl) _ rfl _ rfl) ?_
                          simp only [Act.put, lzA, lzB, lzC]
                          refine wpAnyL_load (i := 3) (oi := ⟨_, _, _, _, _, _⟩) (v := .agg #[.bool (Y9.absent), .slice ai' Y9.ints.length ci', .bool (Y9.co), .slice az' Y9.strs.length cz']) rfl (by kernel_rfl) (by kernel_rfl) (by kernel_rfl) (by kernel_rfl) (fun _ _ _ h => h) (yl_set (by rfl) _ rfl _ 0 rfl _ _ _ _ (fun _ h => ⟨cell_heap h 0, cell_heap h 1, cell_heap h 2, cell_heap h 3⟩)) G11 ?_
                          simp only [Act.put, lzA, lzB, lzC]
                          refine wpAnyL_pure (i := 8) (oi := ⟨_, _, _, _, _, _⟩) (v := .int .i64 0) rfl (by kernel_rfl) (by kernel_rfl) (by kernel_rfl) (fun _ _ _ h => h) (yl_move (by rfl) _ rfl _ rfl) ?_
                          simp only [Act.put, lzA, lzB, lzC]
                          refine wpAnyL_all (rs := [0, 4]) (by kernel_rfl) (by simp) ?_
                          intro j hj
                          simp only [List.mem_cons, List.not_mem_nil, or_false] at hj
                          rcases hj with rfl | rfl
                          · refine ot_row0Q (o := ⟨_, _, _, _, _, _⟩) rfl (by rfl) rfl (fun v14 g14 RT kb => ?_)
                            replace RT := OwnT.mono RT D4.size
                            replace D := grown_below D kb
                            replace HE := HE.on kb
                            replace D2 := grown_below D2 kb
                            replace G8 := heap_on G8 kb
                            replace G11 := heap_on G11 kb
                            replace D4 := grown_below D4 kb
                            clear kb
                            refine ⟨fun _ _ => G11, ?_⟩
                            simp only [Act.put, lzA, lzB, lzC]
                            refine wpAnyL_all (rs := [2, 4]) (by kernel_rfl) (by simp) ?_
                            intro j hj
                            simp only [List.mem_cons, List.not_mem_nil, or_false] at hj
                            rcases hj with rfl | rfl
                            · refine ot_appRowT (o := ⟨_, _, _, _, _, _⟩) rfl (by rfl) _ _ rfl v12.heap.size _ _ [] cs0 rfl RT rfl (hR0.on (below_none D)) hn0 (by simp; have := hA0.1; omega) D4.size (fun v15' v15 RT' kg => ?_)
                              replace HE := HE.below HE0.big (OwnT.below (OwnT.mono RT m9) D.size kg)
                              replace D2 := gr_own D2 (fun g hg => Nat.le_trans m29 (World.ownsRow.lt RT g hg).1) kg
                              replace G8 := heap_gro G8 kg (fun e => by have := (World.ownsRow.lt RT _ e).1; omega)
                              replace G11 := heap_gro G11 kg (fun e => by have := (World.ownsRow.lt RT _ e).1; omega)
                              replace D4 := gr_own D4 (fun g hg => (World.ownsRow.lt RT g hg).1) kg
                              replace D := gr_own D (fun g hg => Nat.le_trans m9 (World.ownsRow.lt RT g hg).1) kg
                              replace RT := RT'
                              clear RT' kg
                              rw [List.nil_append] at RT
                              refine ⟨fun _ _ => G11, ?_⟩
                              simp only [Act.put, lzA, lzB, lzC]
                              refine wpAnyL_all (rs := [4]) (by kernel_rfl) (by simp) ?_
                              intro j hj
                              have hj := List.mem_singleton.1 hj
                              subst hj
                              refine ot_row1Q (o := ⟨_, _, _, _, _, _⟩) rfl (by rfl) _ rfl ⟨Y9.absent, ai', Y9.ints.length, ci', Y9.co, az', Y9.strs.length, cz'⟩ rfl (fun v16 g16 hg G16 kb => ?_)
                              have n_g8_g16 : g8 ≠ g16 := by have := lt_heap G8; omega
                              have n_g11_g16 : g11 ≠ g16 := by have := lt_heap G11; omega
                              have ge_g16 : w.heap.size ≤ g16 := Nat.le_trans D.size hg
                              have ge_D2_g16 : v5.heap.size ≤ g16 := Nat.le_trans D2.size hg
                              have six_g16 : 2 ≤ g16 := Nat.le_trans w6 ge_g16
                              clear hg
                              replace D := grown_below D kb
                              replace HE := HE.on kb
                              replace D2 := grown_below D2 kb
                              replace G8 := heap_on G8 kb
                              replace G11 := heap_on G11 kb
                              replace D4 := grown_below D4 kb
                              replace RT := OwnT.on RT kb
                              clear kb
                              refine ⟨fun _ _ => G11, ?_⟩
                              simp only [Act.put, lzA, lzB, lzC]
                              refine wpAnyL_all (rs := [5]) (by kernel_rfl) (by simp) ?_
                              intro j hj
                              have hj := List.mem_singleton.1 hj
                              subst hj
                              refine ot_appRowT (o := ⟨_, _, _, _, _, _⟩) rfl (by rfl) _ _ rfl v12.heap.size _ _ cs0 [⟨Y9.absent, ai', Y9.ints.length, ci', Y9.co, az', Y9.strs.length, cz'⟩] rfl RT rfl (OwnT.row (ownT_one (c := ⟨Y9.absent, ai', Y9.ints.length, ci', Y9.co, az', Y9.strs.length, cz'⟩) G16 (Nat.le_refl _)) (by simp)) (OwnT.nilOkQ (ownT_one (c := ⟨Y9.absent, ai', Y9.ints.length, ci', Y9.co, az', Y9.strs.length, cz'⟩) G16 (Nat.le_refl _))) (by simp; have := hA0.1; omega) D4.size (fun v17' v17 RT' kg => ?_)
                              replace HE := HE.below HE0.big (OwnT.below (OwnT.mono RT m9) D.size kg)
                              replace D2 := gr_own D2 (fun g hg => Nat.le_trans m29 (World.ownsRow.lt RT g hg).1) kg
                              replace G8 := heap_gro G8 kg (fun e => by have := (World.ownsRow.lt RT _ e).1; omega)
                              replace G11 := heap_gro G11 kg (fun e => by have := (World.ownsRow.lt RT _ e).1; omega)
                              replace D4 := gr_own D4 (fun g hg => (World.ownsRow.lt RT g hg).1) kg
                              replace D := gr_own D (fun g hg => Nat.le_trans m9 (World.ownsRow.lt RT g hg).1) kg
                              replace RT := RT'
                              clear RT' kg
                              refine ⟨fun _ _ => G11, ?_⟩
                              simp only [Act.put, lzA, lzB, lzC]
                              refine wpAnyL_all (rs := [6]) (by kernel_rfl) (by simp) ?_
                              intro j hj
                              have hj := List.mem_singleton.1 hj
                              subst hj
                              refine ot_call (o := ⟨_, _, _, _, _, _⟩) rfl (by rfl) 22 _ _ rfl #[v17'] rfl (run_call Tryz.func22 (by kernel_rfl) (by kernel_rfl)) ?_
                              refine (refPoints_any _ (l ++ [Y9]) _ (sets_of_row (OwnT.row RT (by simp; have := hA0.1; omega)) (allSt_append (hA0.on (below_none D)) ⟨rfl, fun i hi => by
                                  rw [List.length_singleton] at hi
                                  obtain rfl : i = 0 := by omega
                                  exact (show SetAt _ (SC.val ⟨Y9.absent, ai', Y9.ints.length, ci', Y9.co, az', Y9.strs.length, cz'⟩) Y9 from ⟨_, _, rfl, hI9.on (below_none D2), hT9.on (below_none D2)⟩)⟩)) (by simp; omega) hpts).mono ?_
                              rintro r v18 (⟨⟨u7, t7, rfl, HF7, HO7⟩, kb⟩)
                              replace D := grown_below D kb
                              replace HE := HE.on kb
                              replace D2 := grown_below D2 kb
                              replace G8 := heap_on G8 kb
                              replace G11 := heap_on G11 kb
                              replace D4 := grown_below D4 kb
                              replace RT := OwnT.on RT kb
                              clear kb
                              have hPl : 0 < (ptsL (l ++ [Y9]) ++ [((2, 0, t7) : Va)]).length := by simp
                              have hPm : (ptsL (l ++ [Y9]) ++ [((2, 0, t7) : Va)]).length ≤ 1000000 := by
                                have h1 := ptsL_len9 (l ++ [Y9]) hpts
                                have h2 : (l ++ [Y9]).length ≤ 13 := by rw [List.length_append, List.length_singleton]; omega
                                have h3 := Nat.mul_le_mul_right 5000 h2
                                rw [List.length_append, List.length_singleton]
                                omega
                              have szP : ∀ p ∈ ptsL (l ++ [Y9]) ++ [((2, 0, t7) : Va)], p.2.2.size ≤ maxLen := fun p hp => by
                                rcases List.mem_append.1 hp with hp | hp
                                · exact ptsL_size (l ++ [Y9]) maxLen hptz p hp
                                · rw [List.mem_singleton.1 hp]
                                  have := fresh_size HF7
                                  show t7.size ≤ maxLen
                                  unfold maxLen; omega
                              generalize ptsL (l ++ [Y9]) ++ [((2, 0, t7) : Va)] = P9 at HO7 hPl hPm szP
                              obtain ⟨gP, capP, rfl, -, hgP⟩ := HO7.form hPl
                              clear HF7 RT
                              have D3 : v18.grownBy v18 none := grown_refl _ _
                              refine Or.inl ⟨.slice (some ⟨gP, 0, none⟩) P9.length capP, rfl, ⟨fun _ _ => G11, ?_⟩⟩
                              simp only [Act.put, lzA, lzB, lzC]
                              refine wpAnyL_pure (i := 7) (oi := ⟨_, _, _, _, _, _⟩) (v := .int .i64 (P9.length : Nat)) rfl (by kernel_rfl) (by kernel_rfl) (by kernel_rfl) (fun _ _ _ h => h) (yt_lenW (by rfl) _ rfl (some ⟨gP, 0, none⟩) P9.length capP rfl) ?_
                              simp only [Act.put, lzA, lzB, lzC]
                              refine wpAnyL_done (by kernel_rfl) ?_ _
                              refine hK20 _ _ ?_
                              clear hK20 K20
                              refine wp_block ?_
                              go_loopw [55] (fun i wr => ∃ (n : Nat), i = .int .i64 ((n : Nat) : Int) ∧ n ≤ P9.length ∧ wr.heap[g11]? = some (.cells #[.bool (Y9.absent), .slice ai' Y9.ints.length ci', .bool (Y9.co), .slice az' Y9.strs.length cz'] 26 (0, 0)) ∧ wr.heap[g8]? = some (.cells #[.bool (S.absent), .slice ai S.ints.length ci, .bool (S.co), .slice az S.strs.length cz] 26 (0, 0)) ∧ Env wr ∧ v18.grownBy wr none ∧ v5.grownBy wr none ∧ w.grownBy wr none) (fun i _ => P9.length - (intOf i).toNat)
                              case atStart => exact ⟨0, rfl, Nat.zero_le _, G11, G8, HE, D3, D2, D⟩
                              case round =>
                                clear D D2 D3 HE G11 G8
                                obtain ⟨n, rfl, hn, G11, G8, HE, D3, D2, D⟩ := hrel
                                by_cases hln : n < P9.length
                                · obtain ⟨P0, P1, P2⟩ := HO7.at n hln
                                  have hsp : (P9.getD n noVa).2.2.size ≤ maxLen := szP _ (gD_mem hln)
                                  generalize P9.getD n noVa = p at P0 P1 P2 hsp
                                  have cellP := fun (W : World) (D : v18.grownBy W none) (j : Nat) => (below_none D).cell (p := ⟨gP, j, none⟩) hgP
                                  refine wp_seq_k (fun K21 hK21 => ?_)
                                  refine wp_region_lit ?_
                                  refine wl_yield (o := ⟨_, _, _, _, _, _⟩) (.bool true) (yt_lssI (by rfl) _ _ _ rfl ((n : Nat) : Int) ((P9.length : Nat) : Int) true rfl rfl (decide_eq_true (by omega))) ?_
                                  simp only [Act.put, lzA, lzB, lzC]
                                  refine wpList_nil ?_
                                  refine hK21 _ _ ?_
                                  clear hK21 K21
                                  refine wp_seq_k (fun K22 hK22 => ?_)
                                  refine wp_cond_true rfl ?_
                                  refine wp_skip ?_
                                  refine hK22 _ _ ?_
                                  clear hK22 K22
                                  refine wp_seq_k (fun K23 hK23 => ?_)
                                  refine wp_block ?_
                                  refine wp_seq_k (fun K24 hK24 => ?_)
                                  refine wp_region_lit ?_
                                  refine wl_yield (o := ⟨_, _, _, _, _, _⟩) (.pointer (some ⟨gP, 0 + n * 3, none⟩)) (yt_atW (by rfl) _ _ rfl gP 0 _ _ n rfl rfl (hln)) ?_
                                  simp only [Act.put, lzA, lzB, lzC]
                                  refine wl_yield (o := ⟨_, _, _, _, _, _⟩) (vVal p) (yl_val (by rfl) _ rfl _ _ rfl _ _ _ (fun _ h => by subst h; rw [Nat.zero_add]; exact ⟨(cellP _ D3 _).trans P0, (cellP _ D3 _).trans P1, (cellP _ D3 _).trans P2⟩)) ?_
                                  simp only [Act.put, lzA, lzB, lzC]
                                  refine wt_allocVa (o := ⟨_, _, _, _, _, _⟩) (by rfl) rfl (fun v19 g19 hg G19 kb => ?_)
                                  simp only [Act.put, lzA, lzB, lzC]
                                  have n_g8_g19 : g8 ≠ g19 := by have := lt_heap G8; omega
                                  have n_g11_g19 : g11 ≠ g19 := by have := lt_heap G11; omega
                                  have ge_g19 : w.heap.size ≤ g19 := Nat.le_trans D.size hg
                                  have ge_D2_g19 : v5.heap.size ≤ g19 := Nat.le_trans D2.size hg
                                  have ge_D3_g19 : v18.heap.size ≤ g19 := Nat.le_trans D3.size hg
                                  have six_g19 : 2 ≤ g19 := Nat.le_trans w6 ge_g19
                                  clear hg
                                  replace D := grown_below D kb
                                  replace HE := HE.on kb
                                  replace D2 := grown_below D2 kb
                                  replace G8 := heap_on G8 kb
                                  replace G11 := heap_on G11 kb
                                  replace D3 := grown_below D3 kb
                                  clear kb
                                  replace G19 : v19.heap[g19]? = some (.cells #[.int .i64 0, .int .i64 0, .string (bs ([]))] 48 (0, 0)) := G19
                                  refine wt_putVa (o := ⟨_, _, _, _, _, _⟩) rfl _ _ rfl _ rfl (p) rfl G19 rfl (fun v20 X kg => ?_)
                                  simp only [Act.put, lzA, lzB, lzC]
                                  replace D := gr_new D ge_g19 kg
                                  replace HE := Env.gr HE kg six_g19
                                  replace D2 := gr_new D2 ge_D2_g19 kg
                                  replace G8 := heap_gr G8 kg n_g8_g19
                                  replace G11 := heap_gr G11 kg n_g11_g19
                                  replace D3 := gr_new D3 ge_D3_g19 kg
                                  clear kg
                                  replace G19 : v20.heap[g19]? = some (.cells #[.int .i64 (p.1), .int .i64 (p.2.1), .string p.2.2] 48 (0, 0)) := X
                                  clear X
                                  refine wpList_nil ?_
                                  refine hK24 _ _ ?_
                                  clear hK24 K24
                                  refine wp_seq_k (fun K25 hK25 => ?_)
                                  cases hh : hasP Y9 p
                                  · refine wp_region_late (S := fun w' => w'.heap[g8]? = some (.cells #[.bool (S.absent), .slice ai S.ints.length ci, .bool (S.co), .slice az S.strs.length cz] 26 (0, 0)) ∧ w'.heap[g11]? = some (.cells #[.bool (Y9.absent), .slice ai' Y9.ints.length ci', .bool (Y9.co), .slice az' Y9.strs.length cz'] 26 (0, 0)) ∧ w'.heap[g19]? = some (.cells #[.int .i64 (p.1), .int .i64 (p.2.1), .string p.2.2] 48 (0, 0))) (late := fun j => [].contains j) (by kernel_rfl) ?_
                                    have kb : Below v20.heap.size v20 v20.drew := (Below.refl _ v20).drew
                                    replace D := grown_below D kb
                                    replace HE := HE.on kb
                                    replace D2 := grown_below D2 kb
                                    replace G8 := heap_on G8 kb
                                    replace G11 := heap_on G11 kb
                                    replace D3 := grown_below D3 kb
                                    replace G19 := heap_on G19 kb
                                    clear kb
                                    generalize v20.drew = v21 at D HE D2 G8 G11 D3 G19 ⊢
                                    refine wpAnyL_load (i := 0) (oi := ⟨_, _, _, _, _, _⟩) (v := .agg #[.bool (Y9.absent), .slice ai' Y9.ints.length ci', .bool (Y9.co), .slice az' Y9.strs.length cz']) rfl (by kernel_rfl) (by kernel_rfl) (by kernel_rfl) (by kernel_rfl) (fun _ _ _ h => h) (yl_set (by rfl) _ rfl _ 0 rfl _ _ _ _ (fun _ h => ⟨cell_heap h.2.1 0, cell_heap h.2.1 1, cell_heap h.2.1 2, cell_heap h.2.1 3⟩)) ⟨G8, G11, G19⟩ ?_
                                    simp only [Act.put, lzA, lzB, lzC]
                                    refine wpAnyL_load (i := 1) (oi := ⟨_, _, _, _, _, _⟩) (v := vVal p) rfl (by kernel_rfl) (by kernel_rfl) (by kernel_rfl) (by kernel_rfl) (fun _ _ _ h => h) (yl_val (by rfl) _ rfl _ 0 rfl _ _ _ (fun _ h => ⟨cell_heap h.2.2 0, cell_heap h.2.2 1, cell_heap h.2.2 2⟩)) ⟨G8, G11, G19⟩ ?_
                                    simp only [Act.put, lzA, lzB, lzC]
                                    refine wpAnyL_all (rs := [2]) (by kernel_rfl) (by simp) ?_
                                    intro j hj
                                    have hj := List.mem_singleton.1 hj
                                    subst hj
                                    refine ot_call (o := ⟨_, _, _, _, _, _⟩) rfl (by rfl) 23 _ _ rfl #[.agg #[.bool (Y9.absent), .slice ai' Y9.ints.length ci', .bool (Y9.co), .slice az' Y9.strs.length cz'], vVal p] rfl (run_call Tryz.func23 (by kernel_rfl) (by kernel_rfl)) ?_
                                    refine (refHas_any _ Y9 p.1 p.2.1 p.2.2 _ (show SetAt _ (SC.val ⟨Y9.absent, ai', Y9.ints.length, ci', Y9.co, az', Y9.strs.length, cz'⟩) Y9 from ⟨_, _, rfl, hI9.on (below_none D2), hT9.on (below_none D2)⟩) hsp).mono ?_
                                    rintro r v22 (⟨rfl, kb⟩)
                                    replace D := grown_below D kb
                                    replace HE := HE.on kb
                                    replace D2 := grown_below D2 kb
                                    replace G8 := heap_on G8 kb
                                    replace G11 := heap_on G11 kb
                                    replace D3 := grown_below D3 kb
                                    replace G19 := heap_on G19 kb
                                    clear kb
                                    refine Or.inl ⟨.bool false, ret_bool hh, ⟨fun _ _ => ⟨G8, G11, G19⟩, ?_⟩⟩
                                    simp only [Act.put, lzA, lzB, lzC]
                                    refine wpAnyL_pure (i := 3) (oi := ⟨_, _, _, _, _, _⟩) (v := .bool false) rfl (by kernel_rfl) (by kernel_rfl) (by kernel_rfl) (fun _ _ _ h => h) (yl_move (by rfl) _ rfl _ rfl) ?_
                                    simp only [Act.put, lzA, lzB, lzC]
                                    refine wpAnyL_load (i := 4) (oi := ⟨_, _, _, _, _, _⟩) (v := undef) rfl (by kernel_rfl) (by kernel_rfl) (by kernel_rfl) (by kernel_rfl) (fun _ _ _ h => h) (yl_undef (by rfl)) ⟨G8, G11, G19⟩ ?_
                                    simp only [Act.put, lzA, lzB, lzC]
                                    refine wpAnyL_load (i := 5) (oi := ⟨_, _, _, _, _, _⟩) (v := undef) rfl (by kernel_rfl) (by kernel_rfl) (by kernel_rfl) (by kernel_rfl) (fun _ _ _ h => h) (yl_undef (by rfl)) ⟨G8, G11, G19⟩ ?_
                                    simp only [Act.put, lzA, lzB, lzC]
                                    refine wpAnyL_pure (i := 6) (oi := ⟨_, _, _, _, _, _⟩) (v := undef) rfl (by kernel_rfl) (by kernel_rfl) (by kernel_rfl) (fun _ _ _ h => h) (yl_undef (by rfl)) ?_
                                    simp only [Act.put, lzA, lzB, lzC]
                                    refine wpAnyL_load (i := 7) (oi := ⟨_, _, _, _, _, _⟩) (v := undef) rfl (by kernel_rfl) (by kernel_rfl) (by kernel_rfl) (by kernel_rfl) (fun _ _ _ h => h) (yl_undef (by rfl)) ⟨G8, G11, G19⟩ ?_
                                    simp only [Act.put, lzA, lzB, lzC]
                                    refine wpAnyL_load (i := 8) (oi := ⟨_, _, _, _, _, _⟩) (v := undef) rfl (by kernel_rfl) (by kernel_rfl) (by kernel_rfl) (by kernel_rfl) (fun _ _ _ h => h) (yl_undef (by rfl)) ⟨G8, G11, G19⟩ ?_
                                    simp only [Act.put, lzA, lzB, lzC]
                                    refine wpAnyL_pure (i := 9) (oi := ⟨_, _, _, _, _, _⟩) (v := undef) rfl (by kernel_rfl) (by kernel_rfl) (by kernel_rfl) (fun _ _ _ h => h) (yl_undef (by rfl)) ?_
                                    simp only [Act.put, lzA, lzB, lzC]
                                    refine wpAnyL_pure (i := 10) (oi := ⟨_, _, _, _, _, _⟩) (v := undef) rfl (by kernel_rfl) (by kernel_rfl) (by kernel_rfl) (fun _ _ _ h => h) (yl_undef (by rfl)) ?_
                                    simp only [Act.put, lzA, lzB, lzC]
                                    refine wpAnyL_pure (i := 11) (oi := ⟨_, _, _, _, _, _⟩) (v := .bool false) rfl (by kernel_rfl) (by kernel_rfl) (by kernel_rfl) (fun _ _ _ h => h) (yl_pickF (by rfl) _ _ _ rfl rfl _ rfl) ?_
                                    simp only [Act.put, lzA, lzB, lzC]
                                    refine wpAnyL_done (by kernel_rfl) ?_ _
                                    refine hK25 _ _ ?_
                                    clear hK25 K25
                                    refine wp_cond_false rfl ?_
                                    refine wp_skip ?_
                                    refine hK23 _ _ ?_
                                    clear hK23 K23
                                    refine wp_region_lit ?_
                                    refine wl_yield (o := ⟨_, _, _, _, _, _⟩) (.int .i64 (n + 1 : Nat)) (yt_addI (by rfl) _ _ _ rfl ((n : Nat) : Int) 1 ((n + 1 : Nat) : Int) rfl rfl (by omega) (by omega) (by omega)) ?_
                                    simp only [Act.put, lzA, lzB, lzC]
                                    refine wl_yield (o := ⟨_, _, _, _, _, _⟩) (.int .i64 (n + 1 : Nat)) (yl_move (by rfl) _ rfl _ rfl) ?_
                                    simp only [Act.put, lzA, lzB, lzC]
                                    refine wpList_nil ?_
                                    show _ ∧ _
                                    go_roundw
                                    case rel => exact ⟨n + 1, rfl, by omega, G11, G8, HE, D3, D2, D⟩
                                    case measure => simp [intOf]; omega
                                  · have hwh : hasP S p = hasP S q := cell_whole (cut_of hil) hSm hr (i := j) hlj (show hasP ((cutL l).getD j noSet) p = true by rw [hX9]; exact hh) (show hasP ((cutL l).getD j noSet) q = true by rw [hX9]; exact hqh)
                                    cases hs2 : hasP S p
                                    · have hin : hasP S q = false := hwh.symm.trans hs2
                                      refine wp_region_late (S := fun w' => w'.heap[g8]? = some (.cells #[.bool (S.absent), .slice ai S.ints.length ci, .bool (S.co), .slice az S.strs.length cz] 26 (0, 0)) ∧ w'.heap[g11]? = some (.cells #[.bool (Y9.absent), .slice ai' Y9.ints.length ci', .bool (Y9.co), .slice az' Y9.strs.length cz'] 26 (0, 0)) ∧ w'.heap[g19]? = some (.cells #[.int .i64 (p.1), .int .i64 (p.2.1), .string p.2.2] 48 (0, 0))) (late := fun j => [].contains j) (by kernel_rfl) ?_
                                      have kb : Below v20.heap.size v20 v20.drew := (Below.refl _ v20).drew
                                      replace D := grown_below D kb
                                      replace HE := HE.on kb
                                      replace D2 := grown_below D2 kb
                                      replace G8 := heap_on G8 kb
                                      replace G11 := heap_on G11 kb
                                      replace D3 := grown_below D3 kb
                                      replace G19 := heap_on G19 kb
                                      clear kb
                                      generalize v20.drew = v21 at D HE D2 G8 G11 D3 G19 ⊢
                                      refine wpAnyL_load (i := 0) (oi := ⟨_, _, _, _, _, _⟩) (v := .agg #[.bool (Y9.absent), .slice ai' Y9.ints.length ci', .bool (Y9.co), .slice az' Y9.strs.length cz']) rfl (by kernel_rfl) (by kernel_rfl) (by kernel_rfl) (by kernel_rfl) (fun _ _ _ h => h) (yl_set (by rfl) _ rfl _ 0 rfl _ _ _ _ (fun _ h => ⟨cell_heap h.2.1 0, cell_heap h.2.1 1, cell_heap h.2.1 2, cell_heap h.2.1 3⟩)) ⟨G8, G11, G19⟩ ?_
                                      simp only [Act.put, lzA, lzB, lzC]
                                      refine wpAnyL_load (i := 1) (oi := ⟨_, _, _, _, _, _⟩) (v := vVal p) rfl (by kernel_rfl) (by kernel_rfl) (by kernel_rfl) (by kernel_rfl) (fun _ _ _ h => h) (yl_val (by rfl) _ rfl _ 0 rfl _ _ _ (fun _ h => ⟨cell_heap h.2.2 0, cell_heap h.2.2 1, cell_heap h.2.2 2⟩)) ⟨G8, G11, G19⟩ ?_
                                      simp only [Act.put, lzA, lzB, lzC]
                                      refine wpAnyL_all (rs := [2]) (by kernel_rfl) (by simp) ?_
                                      intro j hj
                                      have hj := List.mem_singleton.1 hj
                                      subst hj
                                      refine ot_call (o := ⟨_, _, _, _, _, _⟩) rfl (by rfl) 23 _ _ rfl #[.agg #[.bool (Y9.absent), .slice ai' Y9.ints.length ci', .bool (Y9.co), .slice az' Y9.strs.length cz'], vVal p] rfl (run_call Tryz.func23 (by kernel_rfl) (by kernel_rfl)) ?_
                                      refine (refHas_any _ Y9 p.1 p.2.1 p.2.2 _ (show SetAt _ (SC.val ⟨Y9.absent, ai', Y9.ints.length, ci', Y9.co, az', Y9.strs.length, cz'⟩) Y9 from ⟨_, _, rfl, hI9.on (below_none D2), hT9.on (below_none D2)⟩) hsp).mono ?_
                                      rintro r v22 (⟨rfl, kb⟩)
                                      replace D := grown_below D kb
                                      replace HE := HE.on kb
                                      replace D2 := grown_below D2 kb
                                      replace G8 := heap_on G8 kb
                                      replace G11 := heap_on G11 kb
                                      replace D3 := grown_below D3 kb
                                      replace G19 := heap_on G19 kb
                                      clear kb
                                      refine Or.inl ⟨.bool true, ret_bool hh, ⟨fun _ _ => ⟨G8, G11, G19⟩, ?_⟩⟩
                                      simp only [Act.put, lzA, lzB, lzC]
                                      refine wpAnyL_pure (i := 3) (oi := ⟨_, _, _, _, _, _⟩) (v := .bool true) rfl (by kernel_rfl) (by kernel_rfl) (by kernel_rfl) (fun _ _ _ h => h) (yl_move (by rfl) _ rfl _ rfl) ?_
                                      simp only [Act.put, lzA, lzB, lzC]
                                      refine wpAnyL_load (i := 4) (oi := ⟨_, _, _, _, _, _⟩) (v := .agg #[.bool (S.absent), .slice ai S.ints.length ci, .bool (S.co), .slice az S.strs.length cz]) rfl (by kernel_rfl) (by kernel_rfl) (by kernel_rfl) (by kernel_rfl) (fun _ _ _ h => h) (yl_set (by rfl) _ rfl _ 0 rfl _ _ _ _ (fun _ h => ⟨cell_heap h.1 0, cell_heap h.1 1, cell_heap h.1 2, cell_heap h.1 3⟩)) ⟨G8, G11, G19⟩ ?_
                                      simp only [Act.put, lzA, lzB, lzC]
                                      refine wpAnyL_load (i := 5) (oi := ⟨_, _, _, _, _, _⟩) (v := vVal p) rfl (by kernel_rfl) (by kernel_rfl) (by kernel_rfl) (by kernel_rfl) (fun _ _ _ h => h) (yl_val (by rfl) _ rfl _ 0 rfl _ _ _ (fun _ h => ⟨cell_heap h.2.2 0, cell_heap h.2.2 1, cell_heap h.2.2 2⟩)) ⟨G8, G11, G19⟩ ?_
                                      simp only [Act.put, lzA, lzB, lzC]
                                      refine wpAnyL_load (i := 7) (oi := ⟨_, _, _, _, _, _⟩) (v := .agg #[.bool (Y9.absent), .slice ai' Y9.ints.length ci', .bool (Y9.co), .slice az' Y9.strs.length cz']) rfl (by kernel_rfl) (by kernel_rfl) (by kernel_rfl) (by kernel_rfl) (fun _ _ _ h => h) (yl_set (by rfl) _ rfl _ 0 rfl _ _ _ _ (fun _ h => ⟨cell_heap h.2.1 0, cell_heap h.2.1 1, cell_heap h.2.1 2, cell_heap h.2.1 3⟩)) ⟨G8, G11, G19⟩ ?_
                                      simp only [Act.put, lzA, lzB, lzC]
                                      refine wpAnyL_load (i := 8) (oi := ⟨_, _, _, _, _, _⟩) (v := .agg #[.bool (S.absent), .slice ai S.ints.length ci, .bool (S.co), .slice az S.strs.length cz]) rfl (by kernel_rfl) (by kernel_rfl) (by kernel_rfl) (by kernel_rfl) (fun _ _ _ h => h) (yl_set (by rfl) _ rfl _ 0 rfl _ _ _ _ (fun _ h => ⟨cell_heap h.1 0, cell_heap h.1 1, cell_heap h.1 2, cell_heap h.1 3⟩)) ⟨G8, G11, G19⟩ ?_
                                      simp only [Act.put, lzA, lzB, lzC]
                                      refine wpAnyL_all (rs := [6]) (by kernel_rfl) (by simp) ?_
                                      intro j hj
                                      have hj := List.mem_singleton.1 hj
                                      subst hj
                                      refine ot_call (o := ⟨_, _, _, _, _, _⟩) rfl (by rfl) 23 _ _ rfl #[.agg #[.bool (S.absent), .slice ai S.ints.length ci, .bool (S.co), .slice az S.strs.length cz], vVal p] rfl (run_call Tryz.func23 (by kernel_rfl) (by kernel_rfl)) ?_
                                      refine (refHas_any _ S p.1 p.2.1 p.2.2 _ (show SetAt _ (SC.val ⟨S.absent, ai, S.ints.length, ci, S.co, az, S.strs.length, cz⟩) S from ⟨_, _, rfl, hI.on (below_none D), hT.on (below_none D)⟩) hsp).mono ?_
                                      rintro r v23 (⟨rfl, kb⟩)
                                      replace D := grown_below D kb
                                      replace HE := HE.on kb
                                      replace D2 := grown_below D2 kb
                                      replace G8 := heap_on G8 kb
                                      replace G11 := heap_on G11 kb
                                      replace D3 := grown_below D3 kb
                                      replace G19 := heap_on G19 kb
                                      clear kb
                                      refine Or.inl ⟨.bool false, ret_bool hs2, ⟨fun _ _ => ⟨G8, G11, G19⟩, ?_⟩⟩
                                      simp only [Act.put, lzA, lzB, lzC]
                                      refine wpAnyL_all (rs := [9]) (by kernel_rfl) (by simp) ?_
                                      intro j hj
                                      have hj := List.mem_singleton.1 hj
                                      subst hj
                                      refine ot_call (o := ⟨_, _, _, _, _, _⟩) rfl (by rfl) 24 _ _ rfl #[.agg #[.bool (Y9.absent), .slice ai' Y9.ints.length ci', .bool (Y9.co), .slice az' Y9.strs.length cz'], .agg #[.bool (S.absent), .slice ai S.ints.length ci, .bool (S.co), .slice az S.strs.length cz]] rfl (run_call Tryz.func24 (by kernel_rfl) (by kernel_rfl)) ?_
                                      refine (in_any _ _ Y9 S q _ HE (show SetAt _ (SC.val ⟨Y9.absent, ai', Y9.ints.length, ci', Y9.co, az', Y9.strs.length, cz'⟩) Y9 from ⟨_, _, rfl, hI9.on (below_none D2), hT9.on (below_none D2)⟩) (show SetAt _ (SC.val ⟨S.absent, ai, S.ints.length, ci, S.co, az, S.strs.length, cz⟩) S from ⟨_, _, rfl, hI.on (below_none D), hT.on (below_none D)⟩) (fun _ => hfk) hfS hq hqm).mono ?_
                                      rintro r v24 (⟨rfl, kb⟩)
                                      replace D := grown_below D kb
                                      replace HE := HE.on kb
                                      replace D2 := grown_below D2 kb
                                      replace G8 := heap_on G8 kb
                                      replace G11 := heap_on G11 kb
                                      replace D3 := grown_below D3 kb
                                      replace G19 := heap_on G19 kb
                                      clear kb
                                      refine Or.inl ⟨.bool false, ret_bool hin, ⟨fun _ _ => ⟨G8, G11, G19⟩, ?_⟩⟩
                                      simp only [Act.put, lzA, lzB, lzC]
                                      refine wpAnyL_pure (i := 10) (oi := ⟨_, _, _, _, _, _⟩) (v := .bool false) rfl (by kernel_rfl) (by kernel_rfl) (by kernel_rfl) (fun _ _ _ h => h) (yq_neqB (by rfl) _ _ _ rfl false false rfl rfl) ?_
                                      simp only [Act.put, lzA, lzB, lzC]
                                      refine wpAnyL_pure (i := 11) (oi := ⟨_, _, _, _, _, _⟩) (v := .bool false) rfl (by kernel_rfl) (by kernel_rfl) (by kernel_rfl) (fun _ _ _ h => h) (yl_pickT (by rfl) _ _ _ rfl rfl _ rfl) ?_
                                      simp only [Act.put, lzA, lzB, lzC]
                                      refine wpAnyL_done (by kernel_rfl) ?_ _
                                      refine hK25 _ _ ?_
                                      clear hK25 K25
                                      refine wp_cond_false rfl ?_
                                      refine wp_skip ?_
                                      refine hK23 _ _ ?_
                                      clear hK23 K23
                                      refine wp_region_lit ?_
                                      refine wl_yield (o := ⟨_, _, _, _, _, _⟩) (.int .i64 (n + 1 : Nat)) (yt_addI (by rfl) _ _ _ rfl ((n : Nat) : Int) 1 ((n + 1 : Nat) : Int) rfl rfl (by omega) (by omega) (by omega)) ?_
                                      simp only [Act.put, lzA, lzB, lzC]
                                      refine wl_yield (o := ⟨_, _, _, _, _, _⟩) (.int .i64 (n + 1 : Nat)) (yl_move (by rfl) _ rfl _ rfl) ?_
                                      simp only [Act.put, lzA, lzB, lzC]
                                      refine wpList_nil ?_
                                      show _ ∧ _
                                      go_roundw
                                      case rel => exact ⟨n + 1, rfl, by omega, G11, G8, HE, D3, D2, D⟩
                                      case measure => simp [intOf]; omega
                                    · have hin : hasP S q = true := hwh.symm.trans hs2
                                      refine wp_region_late (S := fun w' => w'.heap[g8]? = some (.cells #[.bool (S.absent), .slice ai S.ints.length ci, .bool (S.co), .slice az S.strs.length cz] 26 (0, 0)) ∧ w'.heap[g11]? = some (.cells #[.bool (Y9.absent), .slice ai' Y9.ints.length ci', .bool (Y9.co), .slice az' Y9.strs.length cz'] 26 (0, 0)) ∧ w'.heap[g19]? = some (.cells #[.int .i64 (p.1), .int .i64 (p.2.1), .string p.2.2] 48 (0, 0))) (late := fun j => [].contains j) (by kernel_rfl) ?_
                                      have kb : Below v20.heap.size v20 v20.drew := (Below.refl _ v20).drew
                                      replace D := grown_below D kb
                                      replace HE := HE.on kb
                                      replace D2 := grown_below D2 kb
                                      replace G8 := heap_on G8 kb
                                      replace G11 := heap_on G11 kb
                                      replace D3 := grown_below D3 kb
                                      replace G19 := heap_on G19 kb
                                      clear kb
                                      generalize v20.drew = v21 at D HE D2 G8 G11 D3 G19 ⊢
                                      refine wpAnyL_load (i := 0) (oi := ⟨_, _, _, _, _, _⟩) (v := .agg #[.bool (Y9.absent), .slice ai' Y9.ints.length ci', .bool (Y9.co), .slice az' Y9.strs.length cz']) rfl (by kernel_rfl) (by kernel_rfl) (by kernel_rfl) (by kernel_rfl) (fun _ _ _ h => h) (yl_set (by rfl) _ rfl _ 0 rfl _ _ _ _ (fun _ h => ⟨cell_heap h.2.1 0, cell_heap h.2.1 1, cell_heap h.2.1 2, cell_heap h.2.1 3⟩)) ⟨G8, G11, G19⟩ ?_
                                      simp only [Act.put, lzA, lzB, lzC]
                                      refine wpAnyL_load (i := 1) (oi := ⟨_, _, _, _, _, _⟩) (v := vVal p) rfl (by kernel_rfl) (by kernel_rfl) (by kernel_rfl) (by kernel_rfl) (fun _ _ _ h => h) (yl_val (by rfl) _ rfl _ 0 rfl _ _ _ (fun _ h => ⟨cell_heap h.2.2 0, cell_heap h.2.2 1, cell_heap h.2.2 2⟩)) ⟨G8, G11, G19⟩ ?_
                                      simp only [Act.put, lzA, lzB, lzC]
                                      refine wpAnyL_all (rs := [2]) (by kernel_rfl) (by simp) ?_
                                      intro j hj
                                      have hj := List.mem_singleton.1 hj
                                      subst hj
                                      refine ot_call (o := ⟨_, _, _, _, _, _⟩) rfl (by rfl) 23 _ _ rfl #[.agg #[.bool (Y9.absent), .slice ai' Y9.ints.length ci', .bool (Y9.co), .slice az' Y9.strs.length cz'], vVal p] rfl (run_call Tryz.func23 (by kernel_rfl) (by kernel_rfl)) ?_
                                      refine (refHas_any _ Y9 p.1 p.2.1 p.2.2 _ (show SetAt _ (SC.val ⟨Y9.absent, ai', Y9.ints.length, ci', Y9.co, az', Y9.strs.length, cz'⟩) Y9 from ⟨_, _, rfl, hI9.on (below_none D2), hT9.on (below_none D2)⟩) hsp).mono ?_
                                      rintro r v22 (⟨rfl, kb⟩)
                                      replace D := grown_below D kb
                                      replace HE := HE.on kb
                                      replace D2 := grown_below D2 kb
                                      replace G8 := heap_on G8 kb
                                      replace G11 := heap_on G11 kb
                                      replace D3 := grown_below D3 kb
                                      replace G19 := heap_on G19 kb
                                      clear kb
                                      refine Or.inl ⟨.bool true, ret_bool hh, ⟨fun _ _ => ⟨G8, G11, G19⟩, ?_⟩⟩
                                      simp only [Act.put, lzA, lzB, lzC]
                                      refine wpAnyL_pure (i := 3) (oi := ⟨_, _, _, _, _, _⟩) (v := .bool true) rfl (by kernel_rfl) (by kernel_rfl) (by kernel_rfl) (fun _ _ _ h => h) (yl_move (by rfl) _ rfl _ rfl) ?_
                                      simp only [Act.put, lzA, lzB, lzC]
                                      refine wpAnyL_load (i := 4) (oi := ⟨_, _, _, _, _, _⟩) (v := .agg #[.bool (S.absent), .slice ai S.ints.length ci, .bool (S.co), .slice az S.strs.length cz]) rfl (by kernel_rfl) (by kernel_rfl) (by kernel_rfl) (by kernel_rfl) (fun _ _ _ h => h) (yl_set (by rfl) _ rfl _ 0 rfl _ _ _ _ (fun _ h => ⟨cell_heap h.1 0, cell_heap h.1 1, cell_heap h.1 2, cell_heap h.1 3⟩)) ⟨G8, G11, G19⟩ ?_
                                      simp only [Act.put, lzA, lzB, lzC]
                                      refine wpAnyL_load (i := 5) (oi := ⟨_, _, _, _, _, _⟩) (v := vVal p) rfl (by kernel_rfl) (by kernel_rfl) (by kernel_rfl) (by kernel_rfl) (fun _ _ _ h => h) (yl_val (by rfl) _ rfl _ 0 rfl _ _ _ (fun _ h => ⟨cell_heap h.2.2 0, cell_heap h.2.2 1, cell_heap h.2.2 2⟩)) ⟨G8, G11, G19⟩ ?_
                                      simp only [Act.put, lzA, lzB, lzC]
                                      refine wpAnyL_load (i := 7) (oi := ⟨_, _, _, _, _, _⟩) (v := .agg #[.bool (Y9.absent), .slice ai' Y9.ints.length ci', .bool (Y9.co), .slice az' Y9.strs.length cz']) rfl (by kernel_rfl) (by kernel_rfl) (by kernel_rfl) (by kernel_rfl) (fun _ _ _ h => h) (yl_set (by rfl) _ rfl _ 0 rfl _ _ _ _ (fun _ h => ⟨cell_heap h.2.1 0, cell_heap h.2.1 1, cell_heap h.2.1 2, cell_heap h.2.1 3⟩)) ⟨G8, G11, G19⟩ ?_
                                      simp only [Act.put, lzA, lzB, lzC]
                                      refine wpAnyL_load (i := 8) (oi := ⟨_, _, _, _, _, _⟩) (v := .agg #[.bool (S.absent), .slice ai S.ints.length ci, .bool (S.co), .slice az S.strs.length cz]) rfl (by kernel_rfl) (by kernel_rfl) (by kernel_rfl) (by kernel_rfl) (fun _ _ _ h => h) (yl_set (by rfl) _ rfl _ 0 rfl _ _ _ _ (fun _ h => ⟨cell_heap h.1 0, cell_heap h.1 1, cell_heap h.1 2, cell_heap h.1 3⟩)) ⟨G8, G11, G19⟩ ?_
                                      simp only [Act.put, lzA, lzB, lzC]
                                      refine wpAnyL_all (rs := [6]) (by kernel_rfl) (by simp) ?_
                                      intro j hj
                                      have hj := List.mem_singleton.1 hj
                                      subst hj
                                      refine ot_call (o := ⟨_, _, _, _, _, _⟩) rfl (by rfl) 23 _ _ rfl #[.agg #[.bool (S.absent), .slice ai S.ints.length ci, .bool (S.co), .slice az S.strs.length cz], vVal p] rfl (run_call Tryz.func23 (by kernel_rfl) (by kernel_rfl)) ?_
                                      refine (refHas_any _ S p.1 p.2.1 p.2.2 _ (show SetAt _ (SC.val ⟨S.absent, ai, S.ints.length, ci, S.co, az, S.strs.length, cz⟩) S from ⟨_, _, rfl, hI.on (below_none D), hT.on (below_none D)⟩) hsp).mono ?_
                                      rintro r v23 (⟨rfl, kb⟩)
                                      replace D := grown_below D kb
                                      replace HE := HE.on kb
                                      replace D2 := grown_below D2 kb
                                      replace G8 := heap_on G8 kb
                                      replace G11 := heap_on G11 kb
                                      replace D3 := grown_below D3 kb
                                      replace G19 := heap_on G19 kb
                                      clear kb
                                      refine Or.inl ⟨.bool true, ret_bool hs2, ⟨fun _ _ => ⟨G8, G11, G19⟩, ?_⟩⟩
                                      simp only [Act.put, lzA, lzB, lzC]
                                      refine wpAnyL_all (rs := [9]) (by kernel_rfl) (by simp) ?_
                                      intro j hj
                                      have hj := List.mem_singleton.1 hj
                                      subst hj
                                      refine ot_call (o := ⟨_, _, _, _, _, _⟩) rfl (by rfl) 24 _ _ rfl #[.agg #[.bool (Y9.absent), .slice ai' Y9.ints.length ci', .bool (Y9.co), .slice az' Y9.strs.length cz'], .agg #[.bool (S.absent), .slice ai S.ints.length ci, .bool (S.co), .slice az S.strs.length cz]] rfl (run_call Tryz.func24 (by kernel_rfl) (by kernel_rfl)) ?_
                                      refine (in_any _ _ Y9 S q _ HE (show SetAt _ (SC.val ⟨Y9.absent, ai', Y9.ints.length, ci', Y9.co, az', Y9.strs.length, cz'⟩) Y9 from ⟨_, _, rfl, hI9.on (below_none D2), hT9.on (below_none D2)⟩) (show SetAt _ (SC.val ⟨S.absent, ai, S.ints.length, ci, S.co, az, S.strs.length, cz⟩) S from ⟨_, _, rfl, hI.on (below_none D), hT.on (below_none D)⟩) (fun _ => hfk) hfS hq hqm).mono ?_
                                      rintro r v24 (⟨rfl, kb⟩)
                                      replace D := grown_below D kb
                                      replace HE := HE.on kb
                                      replace D2 := grown_below D2 kb
                                      replace G8 := heap_on G8 kb
                                      replace G11 := heap_on G11 kb
                                      replace D3 := grown_below D3 kb
                                      replace G19 := heap_on G19 kb
                                      clear kb
                                      refine Or.inl ⟨.bool true, ret_bool hin, ⟨fun _ _ => ⟨G8, G11, G19⟩, ?_⟩⟩
                                      simp only [Act.put, lzA, lzB, lzC]
                                      refine wpAnyL_pure (i := 10) (oi := ⟨_, _, _, _, _, _⟩) (v := .bool false) rfl (by kernel_rfl) (by kernel_rfl) (by kernel_rfl) (fun _ _ _ h => h) (yq_neqB (by rfl) _ _ _ rfl true true rfl rfl) ?_
                                      simp only [Act.put, lzA, lzB, lzC]
                                      refine wpAnyL_pure (i := 11) (oi := ⟨_, _, _, _, _, _⟩) (v := .bool false) rfl (by kernel_rfl) (by kernel_rfl) (by kernel_rfl) (fun _ _ _ h => h) (yl_pickT (by rfl) _ _ _ rfl rfl _ rfl) ?_
                                      simp only [Act.put, lzA, lzB, lzC]
                                      refine wpAnyL_done (by kernel_rfl) ?_ _
                                      refine hK25 _ _ ?_
                                      clear hK25 K25
                                      refine wp_cond_false rfl ?_
                                      refine wp_skip ?_
                                      refine hK23 _ _ ?_
                                      clear hK23 K23
                                      refine wp_region_lit ?_
                                      refine wl_yield (o := ⟨_, _, _, _, _, _⟩) (.int .i64 (n + 1 : Nat)) (yt_addI (by rfl) _ _ _ rfl ((n : Nat) : Int) 1 ((n + 1 : Nat) : Int) rfl rfl (by omega) (by omega) (by omega)) ?_
                                      simp only [Act.put, lzA, lzB, lzC]
                                      refine wl_yield (o := ⟨_, _, _, _, _, _⟩) (.int .i64 (n + 1 : Nat)) (yl_move (by rfl) _ rfl _ rfl) ?_
                                      simp only [Act.put, lzA, lzB, lzC]
                                      refine wpList_nil ?_
                                      show _ ∧ _
                                      go_roundw
                                      case rel => exact ⟨n + 1, rfl, by omega, G11, G8, HE, D3, D2, D⟩
                                      case measure => simp [intOf]; omega
                                · obtain rfl : n = P9.length := by omega
                                  refine wp_seq_k (fun K21 hK21 => ?_)
                                  refine wp_region_lit ?_
                                  refine wl_yield (o := ⟨_, _, _, _, _, _⟩) (.bool false) (yt_lssI (by rfl) _ _ _ rfl ((P9.length : Nat) : Int) ((P9.length : Nat) : Int) false rfl rfl (decide_eq_false (by omega))) ?_
                                  simp only [Act.put, lzA, lzB, lzC]
                                  refine wpList_nil ?_
                                  refine hK21 _ _ ?_
                                  clear hK21 K21
                                  refine wp_seq_k (fun K22 hK22 => ?_)
                                  refine wp_cond_false rfl ?_
                                  refine wp_exit ?_
                                  refine hK18 _ _ ?_
                                  clear hK22 K22 hK18 K18
                                  refine wp_region_lit ?_
                                  refine wl_yield (o := ⟨_, _, _, _, _, _⟩) (.int .i64 (j + 1 : Nat)) (yt_addI (by rfl) _ _ _ rfl ((j : Nat) : Int) 1 ((j + 1 : Nat) : Int) rfl rfl (by omega) (by omega) (by omega)) ?_
                                  simp only [Act.put, lzA, lzB, lzC]
                                  refine wl_yield (o := ⟨_, _, _, _, _, _⟩) (.int .i64 (j + 1 : Nat)) (yl_move (by rfl) _ rfl _ rfl) ?_
                                  simp only [Act.put, lzA, lzB, lzC]
                                  refine wpList_nil ?_
                                  show _ ∧ _
                                  go_roundw
                                  case rel => exact ⟨j + 1, rfl, by omega, G8, HE, D2, D⟩
                                  case measure => simp [intOf]; omega
                            · refine ot_row1Q (o := ⟨_, _, _, _, _, _⟩) rfl (by rfl) _ rfl ⟨Y9.absent, ai', Y9.ints.length, ci', Y9.co, az', Y9.strs.length, cz'⟩ rfl (fun v15 g15 hg G15 kb => ?_)
                              have ne04 : g14 ≠ g15 := by
                                have h1 := (World.ownsRow.lt RT g14 rfl).2
                                omega
                              have n_g8_g15 : g8 ≠ g15 := by have := lt_heap G8; omega
                              have n_g11_g15 : g11 ≠ g15 := by have := lt_heap G11; omega
                              have ge_g15 : w.heap.size ≤ g15 := Nat.le_trans D.size hg
                              have ge_D2_g15 : v5.heap.size ≤ g15 := Nat.le_trans D2.size hg
                              have six_g15 : 2 ≤ g15 := Nat.le_trans w6 ge_g15
                              clear hg
                              replace D := grown_below D kb
                              replace HE := HE.on kb
                              replace D2 := grown_below D2 kb
                              replace G8 := heap_on G8 kb
                              replace G11 := heap_on G11 kb
                              replace D4 := grown_below D4 kb
                              replace RT := OwnT.on RT kb
                              clear kb
                              refine ⟨fun _ _ => G11, ?_⟩
                              simp only [Act.put, lzA, lzB, lzC]
                              refine wpAnyL_all (rs := [2]) (by kernel_rfl) (by simp) ?_
                              intro j hj
                              have hj := List.mem_singleton.1 hj
                              subst hj
                              refine ot_appRowT (o := ⟨_, _, _, _, _, _⟩) rfl (by rfl) _ _ rfl v12.heap.size _ _ [] cs0 rfl RT rfl (hR0.on (below_none D)) hn0 (by simp; have := hA0.1; omega) D4.size (fun v16' v16 RT' kg => ?_)
                              replace HE := HE.below HE0.big (OwnT.below (OwnT.mono RT m9) D.size kg)
                              replace D2 := gr_own D2 (fun g hg => Nat.le_trans m29 (World.ownsRow.lt RT g hg).1) kg
                              replace G8 := heap_gro G8 kg (fun e => by have := (World.ownsRow.lt RT _ e).1; omega)
                              replace G11 := heap_gro G11 kg (fun e => by have := (World.ownsRow.lt RT _ e).1; omega)
                              replace G15 := heap_gro G15 kg (fun e => ne04 (by cases e; rfl))
                              replace D4 := gr_own D4 (fun g hg => (World.ownsRow.lt RT g hg).1) kg
                              replace D := gr_own D (fun g hg => Nat.le_trans m9 (World.ownsRow.lt RT g hg).1) kg
                              replace RT := RT'
                              clear RT' kg
                              rw [List.nil_append] at RT
                              refine ⟨fun _ _ => G11, ?_⟩
                              simp only [Act.put, lzA, lzB, lzC]
                              refine wpAnyL_all (rs := [5]) (by kernel_rfl) (by simp) ?_
                              intro j hj
                              have hj := List.mem_singleton.1 hj
                              subst hj
                              refine ot_appRowT (o := ⟨_, _, _, _, _, _⟩) rfl (by rfl) _ _ rfl v12.heap.size _ _ cs0 [⟨Y9.absent, ai', Y9.ints.length, ci', Y9.co, az', Y9.strs.length, cz'⟩] rfl RT rfl (OwnT.row (ownT_one (c := ⟨Y9.absent, ai', Y9.ints.length, ci', Y9.co, az', Y9.strs.length, cz'⟩) G15 (Nat.le_refl _)) (by simp)) (OwnT.nilOkQ (ownT_one (c := ⟨Y9.absent, ai', Y9.ints.length, ci', Y9.co, az', Y9.strs.length, cz'⟩) G15 (Nat.le_refl _))) (by simp; have := hA0.1; omega) D4.size (fun v17' v17 RT' kg => ?_)
                              replace HE := HE.below HE0.big (OwnT.below (OwnT.mono RT m9) D.size kg)
                              replace D2 := gr_own D2 (fun g hg => Nat.le_trans m29 (World.ownsRow.lt RT g hg).1) kg
                              replace G8 := heap_gro G8 kg (fun e => by have := (World.ownsRow.lt RT _ e).1; omega)
                              replace G11 := heap_gro G11 kg (fun e => by have := (World.ownsRow.lt RT _ e).1; omega)
                              replace D4 := gr_own D4 (fun g hg => (World.ownsRow.lt RT g hg).1) kg
                              replace D := gr_own D (fun g hg => Nat.le_trans m9 (World.ownsRow.lt RT g hg).1) kg
                              replace RT := RT'
                              clear RT' kg
                              refine ⟨fun _ _ => G11, ?_⟩
                              simp only [Act.put, lzA, lzB, lzC]
                              refine wpAnyL_all (rs := [6]) (by kernel_rfl) (by simp) ?_
                              intro j hj
                              have hj := List.mem_singleton.1 hj
                              subst hj
                              refine ot_call (o := ⟨_, _, _, _, _, _⟩) rfl (by rfl) 22 _ _ rfl #[v17'] rfl (run_call Tryz.func22 (by kernel_rfl) (by kernel_rfl)) ?_
                              refine (refPoints_any _ (l ++ [Y9]) _ (sets_of_row (OwnT.row RT (by simp; have := hA0.1; omega)) (allSt_append (hA0.on (below_none D)) ⟨rfl, fun i hi => by
                                  rw [List.length_singleton] at hi
                                  obtain rfl : i = 0 := by omega
                                  exact (show SetAt _ (SC.val ⟨Y9.absent, ai', Y9.ints.length, ci', Y9.co, az', Y9.strs.length, cz'⟩) Y9 from ⟨_, _, rfl, hI9.on (below_none D2), hT9.on (below_none D2)⟩)⟩)) (by simp; omega) hpts).mono ?_
                              rintro r v18 (⟨⟨u7, t7, rfl, HF7, HO7⟩, kb⟩)
                              replace D := grown_below D kb
                              replace HE := HE.on kb
                              replace D2 := grown_below D2 kb
                              replace G8 := heap_on G8 kb
                              replace G11 := heap_on G11 kb
                              replace D4 := grown_below D4 kb
                              replace RT := OwnT.on RT kb
                              clear kb
                              have hPl : 0 < (ptsL (l ++ [Y9]) ++ [((2, 0, t7) : Va)]).length := by simp
                              have hPm : (ptsL (l ++ [Y9]) ++ [((2, 0, t7) : Va)]).length ≤ 1000000 := by
                                have h1 := ptsL_len9 (l ++ [Y9]) hpts
                                have h2 : (l ++ [Y9]).length ≤ 13 := by rw [List.length_append, List.length_singleton]; omega
                                have h3 := Nat.mul_le_mul_right 5000 h2
                                rw [List.length_append, List.length_singleton]
                                omega
                              have szP : ∀ p ∈ ptsL (l ++ [Y9]) ++ [((2, 0, t7) : Va)], p.2.2.size ≤ maxLen := fun p hp => by
                                rcases List.mem_append.1 hp with hp | hp
                                · exact ptsL_size (l ++ [Y9]) maxLen hptz p hp
                                · rw [List.mem_singleton.1 hp]
                                  have := fresh_size HF7
                                  show t7.size ≤ maxLen
                                  unfold maxLen; omega
                              generalize ptsL (l ++ [Y9]) ++ [((2, 0, t7) : Va)] = P9 at HO7 hPl hPm szP
                              obtain ⟨gP, capP, rfl, -, hgP⟩ := HO7.form hPl
                              clear HF7 RT
                              have D3 : v18.grownBy v18 none := grown_refl _ _
                              refine Or.inl ⟨.slice (some ⟨gP, 0, none⟩) P9.length capP, rfl, ⟨fun _ _ => G11, ?_⟩⟩
                              simp only [Act.put, lzA, lzB, lzC]
                              refine wpAnyL_pure (i := 7) (oi := ⟨_, _, _, _, _, _⟩) (v := .int .i64 (P9.length : Nat)) rfl (by kernel_rfl) (by kernel_rfl) (by kernel_rfl) (fun _ _ _ h => h) (yt_lenW (by rfl) _ rfl (some ⟨gP, 0, none⟩) P9.length capP rfl) ?_
                              simp only [Act.put, lzA, lzB, lzC]
                              refine wpAnyL_done (by kernel_rfl) ?_ _
                              refine hK20 _ _ ?_
                              clear hK20 K20
                              refine wp_block ?_
                              go_loopw [55] (fun i wr => ∃ (n : Nat), i = .int .i64 ((n : Nat) : Int) ∧ n ≤ P9.length ∧ wr.heap[g11]? = some (.cells #[.bool (Y9.absent), .slice ai' Y9.ints.length ci', .bool (Y9.co), .slice az' Y9.strs.length cz'] 26 (0, 0)) ∧ wr.heap[g8]? = some (.cells #[.bool (S.absent), .slice ai S.ints.length ci, .bool (S.co), .slice az S.strs.length cz] 26 (0, 0)) ∧ Env wr ∧ v18.grownBy wr none ∧ v5.grownBy wr none ∧ w.grownBy wr none) (fun i _ => P9.length - (intOf i).toNat)
                              case atStart => exact ⟨0, rfl, Nat.zero_le _, G11, G8, HE, D3, D2, D⟩
                              case round =>
                                clear D D2 D3 HE G11 G8
                                obtain ⟨n, rfl, hn, G11, G8, HE, D3, D2, D⟩ := hrel
                                by_cases hln : n < P9.length
                                · obtain ⟨P0, P1, P2⟩ := HO7.at n hln
                                  have hsp : (P9.getD n noVa).2.2.size ≤ maxLen := szP _ (gD_mem hln)
                                  generalize P9.getD n noVa = p at P0 P1 P2 hsp
                                  have cellP := fun (W : World) (D : v18.grownBy W none) (j : Nat) => (below_none D).cell (p := ⟨gP, j, none⟩) hgP
                                  refine wp_seq_k (fun K21 hK21 => ?_)
                                  refine wp_region_lit ?_
                                  refine wl_yield (o := ⟨_, _, _, _, _, _⟩) (.bool true) (yt_lssI (by rfl) _ _ _ rfl ((n : Nat) : Int) ((P9.length : Nat) : Int) true rfl rfl (decide_eq_true (by omega))) ?_
                                  simp only [Act.put, lzA, lzB, lzC]
                                  refine wpList_nil ?_
                                  refine hK21 _ _ ?_
                                  clear hK21 K21
                                  refine wp_seq_k (fun K22 hK22 => ?_)
                                  refine wp_cond_true rfl ?_
                                  refine wp_skip ?_
                                  refine hK22 _ _ ?_
                                  clear hK22 K22
                                  refine wp_seq_k (fun K23 hK23 => ?_)
                                  refine wp_block ?_
                                  refine wp_seq_k (fun K24 hK24 => ?_)
                                  refine wp_region_lit ?_
                                  refine wl_yield (o := ⟨_, _, _, _, _, _⟩) (.pointer (some ⟨gP, 0 + n * 3, none⟩)) (yt_atW (by rfl) _ _ rfl gP 0 _ _ n rfl rfl (hln)) ?_
                                  simp only [Act.put, lzA, lzB, lzC]
                                  refine wl_yield (o := ⟨_, _, _, _, _, _⟩) (vVal p) (yl_val (by rfl) _ rfl _ _ rfl _ _ _ (fun _ h => by subst h; rw [Nat.zero_add]; exact ⟨(cellP _ D3 _).trans P0, (cellP _ D3 _).trans P1, (cellP _ D3 _).trans P2⟩)) ?_
                                  simp only [Act.put, lzA, lzB, lzC]
                                  refine wt_allocVa (o := ⟨_, _, _, _, _, _⟩) (by rfl) rfl (fun v19 g19 hg G19 kb => ?_)
                                  simp only [Act.put, lzA, lzB, lzC]
                                  have n_g8_g19 : g8 ≠ g19 := by have := lt_heap G8; omega
                                  have n_g11_g19 : g11 ≠ g19 := by have := lt_heap G11; omega
                                  have ge_g19 : w.heap.size ≤ g19 := Nat.le_trans D.size hg
                                  have ge_D2_g19 : v5.heap.size ≤ g19 := Nat.le_trans D2.size hg
                                  have ge_D3_g19 : v18.heap.size ≤ g19 := Nat.le_trans D3.size hg
                                  have six_g19 : 2 ≤ g19 := Nat.le_trans w6 ge_g19
                                  clear hg
                                  replace D := grown_below D kb
                                  replace HE := HE.on kb
                                  replace D2 := grown_below D2 kb
                                  replace G8 := heap_on G8 kb
                                  replace G11 := heap_on G11 kb
                                  replace D3 := grown_below D3 kb
                                  clear kb
                                  replace G19 : v19.heap[g19]? = some (.cells #[.int .i64 0, .int .i64 0, .string (bs ([]))] 48 (0, 0)) := G19
                                  refine wt_putVa (o := ⟨_, _, _, _, _, _⟩) rfl _ _ rfl _ rfl (p) rfl G19 rfl (fun v20 X kg => ?_)
                                  simp only [Act.put, lzA, lzB, lzC]
                                  replace D := gr_new D ge_g19 kg
                                  replace HE := Env.gr HE kg six_g19
                                  replace D2 := gr_new D2 ge_D2_g19 kg
                                  replace G8 := heap_gr G8 kg n_g8_g19
                                  replace G11 := heap_gr G11 kg n_g11_g19
                                  replace D3 := gr_new D3 ge_D3_g19 kg
                                  clear kg
                                  replace G19 : v20.heap[g19]? = some (.cells #[.int .i64 (p.1), .int .i64 (p.2.1), .string p.2.2] 48 (0, 0)) := X
                                  clear X
                                  refine wpList_nil ?_
                                  refine hK24 _ _ ?_
                                  clear hK24 K24
                                  refine wp_seq_k (fun K25 hK25 => ?_)
                                  cases hh : hasP Y9 p
                                  · refine wp_region_late (S := fun w' => w'.heap[g8]? = some (.cells #[.bool (S.absent), .slice ai S.ints.length ci, .bool (S.co), .slice az S.strs.length cz] 26 (0, 0)) ∧ w'.heap[g11]? = some (.cells #[.bool (Y9.absent), .slice ai' Y9.ints.length ci', .bool (Y9.co), .slice az' Y9.strs.length cz'] 26 (0, 0)) ∧ w'.heap[g19]? = some (.cells #[.int .i64 (p.1), .int .i64 (p.2.1), .string p.2.2] 48 (0, 0))) (late := fun j => [].contains j) (by kernel_rfl) ?_
                                    have kb : Below v20.heap.size v20 v20.drew := (Below.refl _ v20).drew
                                    replace D := grown_below D kb
                                    replace HE := HE.on kb
                                    replace D2 := grown_below D2 kb
                                    replace G8 := heap_on G8 kb
                                    replace G11 := heap_on G11 kb
                                    replace D3 := grown_below D3 kb
                                    replace G19 := heap_on G19 kb
                                    clear kb
                                    generalize v20.drew = v21 at D HE D2 G8 G11 D3 G19 ⊢
                                    refine wpAnyL_load (i := 0) (oi := ⟨_, _, _, _, _, _⟩) (v := .agg #[.bool (Y9.absent), .slice ai' Y9.ints.length ci', .bool (Y9.co), .slice az' Y9.strs.length cz']) rfl (by kernel_rfl) (by kernel_rfl) (by kernel_rfl) (by kernel_rfl) (fun _ _ _ h => h) (yl_set (by rfl) _ rfl _ 0 rfl _ _ _ _ (fun _ h => ⟨cell_heap h.2.1 0, cell_heap h.2.1 1, cell_heap h.2.1 2, cell_heap h.2.1 3⟩)) ⟨G8, G11, G19⟩ ?_
                                    simp only [Act.put, lzA, lzB, lzC]
                                    refine wpAnyL_load (i := 1) (oi := ⟨_, _, _, _, _, _⟩) (v := vVal p) rfl (by kernel_rfl) (by kernel_rfl) (by kernel_rfl) (by kernel_rfl) (fun _ _ _ h => h) (yl_val (by rfl) _ rfl _ 0 rfl _ _ _ (fun _ h => ⟨cell_heap h.2.2 0, cell_heap h.2.2 1, cell_heap h.2.2 2⟩)) ⟨G8, G11, G19⟩ ?_
                                    simp only [Act.put, lzA, lzB, lzC]
                                    refine wpAnyL_all (rs := [2]) (by kernel_rfl) (by simp) ?_
                                    intro j hj
                                    have hj := List.mem_singleton.1 hj
                                    subst hj
                                    refine ot_call (o := ⟨_, _, _, _, _, _⟩) rfl (by rfl) 23 _ _ rfl #[.agg #[.bool (Y9.absent), .slice ai' Y9.ints.length ci', .bool (Y9.co), .slice az' Y9.strs.length cz'], vVal p] rfl (run_call Tryz.func23 (by kernel_rfl) (by kernel_rfl)) ?_
                                    refine (refHas_any _ Y9 p.1 p.2.1 p.2.2 _ (show SetAt _ (SC.val ⟨Y9.absent, ai', Y9.ints.length, ci', Y9.co, az', Y9.strs.length, cz'⟩) Y9 from ⟨_, _, rfl, hI9.on (below_none D2), hT9.on (below_none D2)⟩) hsp).mono ?_
                                    rintro r v22 (⟨rfl, kb⟩)
                                    replace D := grown_below D kb
                                    replace HE := HE.on kb
                                    replace D2 := grown_below D2 kb
                                    replace G8 := heap_on G8 kb
                                    replace G11 := heap_on G11 kb
                                    replace D3 := grown_below D3 kb
                                    replace G19 := heap_on G19 kb
                                    clear kb
                                    refine Or.inl ⟨.bool false, ret_bool hh, ⟨fun _ _ => ⟨G8, G11, G19⟩, ?_⟩⟩
                                    simp only [Act.put, lzA, lzB, lzC]
                                    refine wpAnyL_pure (i := 3) (oi := ⟨_, _, _, _, _, _⟩) (v := .bool false) rfl (by kernel_rfl) (by kernel_rfl) (by kernel_rfl) (fun _ _ _ h => h) (yl_move (by rfl) _ rfl _ rfl) ?_
                                    simp only [Act.put, lzA, lzB, lzC]
                                    refine wpAnyL_load (i := 4) (oi := ⟨_, _, _, _, _, _⟩) (v := undef) rfl (by kernel_rfl) (by kernel_rfl) (by kernel_rfl) (by kernel_rfl) (fun _ _ _ h => h) (yl_undef (by rfl)) ⟨G8, G11, G19⟩ ?_
                                    simp only [Act.put, lzA, lzB, lzC]
                                    refine wpAnyL_load (i := 5) (oi := ⟨_, _, _, _, _, _⟩) (v := undef) rfl (by kernel_rfl) (by kernel_rfl) (by kernel_rfl) (by kernel_rfl) (fun _ _ _ h => h) (yl_undef (by rfl)) ⟨G8, G11, G19⟩ ?_
                                    simp only [Act.put, lzA, lzB, lzC]
                                    refine wpAnyL_pure (i := 6) (oi := ⟨_, _, _, _, _, _⟩) (v := undef) rfl (by kernel_rfl) (by kernel_rfl) (by kernel_rfl) (fun _ _ _ h => h) (yl_undef (by rfl)) ?_
                                    simp only [Act.put, lzA, lzB, lzC]
                                    refine wpAnyL_load (i := 7) (oi := ⟨_, _, _, _, _, _⟩) (v := undef) rfl (by kernel_rfl) (by kernel_rfl) (by kernel_rfl) (by kernel_rfl) (fun _ _ _ h => h) (yl_undef (by rfl)) ⟨G8, G11, G19⟩ ?_
                                    simp only [Act.put, lzA, lzB, lzC]
                                    refine wpAnyL_load (i := 8) (oi := ⟨_, _, _, _, _, _⟩) (v := undef) rfl (by kernel_rfl) (by kernel_rfl) (by kernel_rfl) (by kernel_rfl) (fun _ _ _ h => h) (yl_undef (by rfl)) ⟨G8, G11, G19⟩ ?_
                                    simp only [Act.put, lzA, lzB, lzC]
                                    refine wpAnyL_pure (i := 9) (oi := ⟨_, _, _, _, _, _⟩) (v := undef) rfl (by kernel_rfl) (by kernel_rfl) (by kernel_rfl) (fun _ _ _ h => h) (yl_undef (by rfl)) ?_
                                    simp only [Act.put, lzA, lzB, lzC]
                                    refine wpAnyL_pure (i := 10) (oi := ⟨_, _, _, _, _, _⟩) (v := undef) rfl (by kernel_rfl) (by kernel_rfl) (by kernel_rfl) (fun _ _ _ h => h) (yl_undef (by rfl)) ?_
                                    simp only [Act.put, lzA, lzB, lzC]
                                    refine wpAnyL_pure (i := 11) (oi := ⟨_, _, _, _, _, _⟩) (v := .bool false) rfl (by kernel_rfl) (by kernel_rfl) (by kernel_rfl) (fun _ _ _ h => h) (yl_pickF (by rfl) _ _ _ rfl rfl _ rfl) ?_
                                    simp only [Act.put, lzA, lzB, lzC]
                                    refine wpAnyL_done (by kernel_rfl) ?_ _
                                    refine hK25 _ _ ?_
                                    clear hK25 K25
                                    refine wp_cond_false rfl ?_
                                    refine wp_skip ?_
                                    refine hK23 _ _ ?_
                                    clear hK23 K23
                                    refine wp_region_lit ?_
                                    refine wl_yield (o := ⟨_, _, _, _, _, _⟩) (.int .i64 (n + 1 : Nat)) (yt_addI (by rfl) _ _ _ rfl ((n : Nat) : Int) 1 ((n + 1 : Nat) : Int) rfl rfl (by omega) (by omega) (by omega)) ?_
                                    simp only [Act.put, lzA, lzB, lzC]
                                    refine wl_yield (o := ⟨_, _, _, _, _, _⟩) (.int .i64 (n + 1 : Nat)) (yl_move (by rfl) _ rfl _ rfl) ?_
                                    simp only [Act.put, lzA, lzB, lzC]
                                    refine wpList_nil ?_
                                    show _ ∧ _
                                    go_roundw
                                    case rel => exact ⟨n + 1, rfl, by omega, G11, G8, HE, D3, D2, D⟩
                                    case measure => simp [intOf]; omega
                                  · have hwh : hasP S p = hasP S q := cell_whole (cut_of hil) hSm hr (i := j) hlj (show hasP ((cutL l).getD j noSet) p = true by rw [hX9]; exact hh) (show hasP ((cutL l).getD j noSet) q = true by rw [hX9]; exact hqh)
                                    cases hs2 : hasP S p
                                    · have hin : hasP S q = false := hwh.symm.trans hs2
                                      refine wp_region_late (S := fun w' => w'.heap[g8]? = some (.cells #[.bool (S.absent), .slice ai S.ints.length ci, .bool (S.co), .slice az S.strs.length cz] 26 (0, 0)) ∧ w'.heap[g11]? = some (.cells #[.bool (Y9.absent), .slice ai' Y9.ints.length ci', .bool (Y9.co), .slice az' Y9.strs.length cz'] 26 (0, 0)) ∧ w'.heap[g19]? = some (.cells #[.int .i64 (p.1), .int .i64 (p.2.1), .string p.2.2] 48 (0, 0))) (late := fun j => [].contains j) (by kernel_rfl) ?_
                                      have kb : Below v20.heap.size v20 v20.drew := (Below.refl _ v20).drew
                                      replace D := grown_below D kb
                                      replace HE := HE.on kb
                                      replace D2 := grown_below D2 kb
                                      replace G8 := heap_on G8 kb
                                      replace G11 := heap_on G11 kb
                                      replace D3 := grown_below D3 kb
                                      replace G19 := heap_on G19 kb
                                      clear kb
                                      generalize v20.drew = v21 at D HE D2 G8 G11 D3 G19 ⊢
                                      refine wpAnyL_load (i := 0) (oi := ⟨_, _, _, _, _, _⟩) (v := .agg #[.bool (Y9.absent), .slice ai' Y9.ints.length ci', .bool (Y9.co), .slice az' Y9.strs.length cz']) rfl (by kernel_rfl) (by kernel_rfl) (by kernel_rfl) (by kernel_rfl) (fun _ _ _ h => h) (yl_set (by rfl) _ rfl _ 0 rfl _ _ _ _ (fun _ h => ⟨cell_heap h.2.1 0, cell_heap h.2.1 1, cell_heap h.2.1 2, cell_heap h.2.1 3⟩)) ⟨G8, G11, G19⟩ ?_
                                      simp only [Act.put, lzA, lzB, lzC]
                                      refine wpAnyL_load (i := 1) (oi := ⟨_, _, _, _, _, _⟩) (v := vVal p) rfl (by kernel_rfl) (by kernel_rfl) (by kernel_rfl) (by kernel_rfl) (fun _ _ _ h => h) (yl_val (by rfl) _ rfl _ 0 rfl _ _ _ (fun _ h => ⟨cell_heap h.2.2 0, cell_heap h.2.2 1, cell_heap h.2.2 2⟩)) ⟨G8, G11, G19⟩ ?_
                                      simp only [Act.put, lzA, lzB, lzC]
                                      refine wpAnyL_all (rs := [2]) (by kernel_rfl) (by simp) ?_
                                      intro j hj
                                      have hj := List.mem_singleton.1 hj
                                      subst hj
                                      refine ot_call (o := ⟨_, _, _, _, _, _⟩) rfl (by rfl) 23 _ _ rfl #[.agg #[.bool (Y9.absent), .slice ai' Y9.ints.length ci', .bool (Y9.co), .slice az' Y9.strs.length cz'], vVal p] rfl (run_call Tryz.func23 (by kernel_rfl) (by kernel_rfl)) ?_
                                      refine (refHas_any _ Y9 p.1 p.2.1 p.2.2 _ (show SetAt _ (SC.val ⟨Y9.absent, ai', Y9.ints.length, ci', Y9.co, az', Y9.strs.length, cz'⟩) Y9 from ⟨_, _, rfl, hI9.on (below_none D2), hT9.on (below_none D2)⟩) hsp).mono ?_
                                      rintro r v22 (⟨rfl, kb⟩)
                                      replace D := grown_below D kb
                                      replace HE := HE.on kb
                                      replace D2 := grown_below D2 kb
                                      replace G8 := heap_on G8 kb
                                      replace G11 := heap_on G11 kb
                                      replace D3 := grown_below D3 kb
                                      replace G19 := heap_on G19 kb
                                      clear kb
                                      refine Or.inl ⟨.bool true, ret_bool hh, ⟨fun _ _ => ⟨G8, G11, G19⟩, ?_⟩⟩
                                      simp only [Act.put, lzA, lzB, lzC]
                                      refine wpAnyL_pure (i := 3) (oi := ⟨_, _, _, _, _, _⟩) (v := .bool true) rfl (by kernel_rfl) (by kernel_rfl) (by kernel_rfl) (fun _ _ _ h => h) (yl_move (by rfl) _ rfl _ rfl) ?_
                                      simp only [Act.put, lzA, lzB, lzC]
                                      refine wpAnyL_load (i := 4) (oi := ⟨_, _, _, _, _, _⟩) (v := .agg #[.bool (S.absent), .slice ai S.ints.length ci, .bool (S.co), .slice az S.strs.length cz]) rfl (by kernel_rfl) (by kernel_rfl) (by kernel_rfl) (by kernel_rfl) (fun _ _ _ h => h) (yl_set (by rfl) _ rfl _ 0 rfl _ _ _ _ (fun _ h => ⟨cell_heap h.1 0, cell_heap h.1 1, cell_heap h.1 2, cell_heap h.1 3⟩)) ⟨G8, G11, G19⟩ ?_
                                      simp only [Act.put, lzA, lzB, lzC]
                                      refine wpAnyL_load (i := 5) (oi := ⟨_, _, _, _, _, _⟩) (v := vVal p) rfl (by kernel_rfl) (by kernel_rfl) (by kernel_rfl) (by kernel_rfl) (fun _ _ _ h => h) (yl_val (by rfl) _ rfl _ 0 rfl _ _ _ (fun _ h => ⟨cell_heap h.2.2 0, cell_heap h.2.2 1, cell_heap h.2.2 2⟩)) ⟨G8, G11, G19⟩ ?_
                                      simp only [Act.put, lzA, lzB, lzC]
                                      refine wpAnyL_load (i := 7) (oi := ⟨_, _, _, _, _, _⟩) (v := .agg #[.bool (Y9.absent), .slice ai' Y9.ints.length ci', .bool (Y9.co), .slice az' Y9.strs.length cz']) rfl (by kernel_rfl) (by kernel_rfl) (by kernel_rfl) (by kernel_rfl) (fun _ _ _ h => h) (yl_set (by rfl) _ rfl _ 0 rfl _ _ _ _ (fun _ h => ⟨cell_heap h.2.1 0, cell_heap h.2.1 1, cell_heap h.2.1 2, cell_heap h.2.1 3⟩)) ⟨G8, G11, G19⟩ ?_
                                      simp only [Act.put, lzA, lzB, lzC]
                                      refine wpAnyL_load (i := 8) (oi := ⟨_, _, _, _, _, _⟩) (v := .agg #[.bool (S.absent), .slice ai S.ints.length ci, .bool (S.co), .slice az S.strs.length cz]) rfl (by kernel_rfl) (by kernel_rfl) (by kernel_rfl) (by kernel_rfl) (fun _ _ _ h => h) (yl_set (by rfl) _ rfl _ 0 rfl _ _ _ _ (fun _ h => ⟨cell_heap h.1 0, cell_heap h.1 1, cell_heap h.1 2, cell_heap h.1 3⟩)) ⟨G8, G11, G19⟩ ?_
                                      simp only [Act.put, lzA, lzB, lzC]
                                      refine wpAnyL_all (rs := [6]) (by kernel_rfl) (by simp) ?_
                                      intro j hj
                                      have hj := List.mem_singleton.1 hj
                                      subst hj
                                      refine ot_call (o := ⟨_, _, _, _, _, _⟩) rfl (by rfl) 23 _ _ rfl #[.agg #[.bool (S.absent), .slice ai S.ints.length ci, .bool (S.co), .slice az S.strs.length cz], vVal p] rfl (run_call Tryz.func23 (by kernel_rfl) (by kernel_rfl)) ?_
                                      refine (refHas_any _ S p.1 p.2.1 p.2.2 _ (show SetAt _ (SC.val ⟨S.absent, ai, S.ints.length, ci, S.co, az, S.strs.length, cz⟩) S from ⟨_, _, rfl, hI.on (below_none D), hT.on (below_none D)⟩) hsp).mono ?_
                                      rintro r v23 (⟨rfl, kb⟩)
                                      replace D := grown_below D kb
                                      replace HE := HE.on kb
                                      replace D2 := grown_below D2 kb
                                      replace G8 := heap_on G8 kb
                                      replace G11 := heap_on G11 kb
                                      replace D3 := grown_below D3 kb
                                      replace G19 := heap_on G19 kb
                                      clear kb
                                      refine Or.inl ⟨.bool false, ret_bool hs2, ⟨fun _ _ => ⟨G8, G11, G19⟩, ?_⟩⟩
                                      simp only [Act.put, lzA, lzB, lzC]
                                      refine wpAnyL_all (rs := [9]) (by kernel_rfl) (by simp) ?_
                                      intro j hj
                                      have hj := List.mem_singleton.1 hj
                                      subst hj
                                      refine ot_call (o := ⟨_, _, _, _, _, _⟩) rfl (by rfl) 24 _ _ rfl #[.agg #[.bool (Y9.absent), .slice ai' Y9.ints.length ci', .bool (Y9.co), .slice az' Y9.strs.length cz'], .agg #[.bool (S.absent), .slice ai S.ints.length ci, .bool (S.co), .slice az S.strs.length cz]] rfl (run_call Tryz.func24 (by kernel_rfl) (by kernel_rfl)) ?_
                                      refine (in_any _ _ Y9 S q _ HE (show SetAt _ (SC.val ⟨Y9.absent, ai', Y9.ints.length, ci', Y9.co, az', Y9.strs.length, cz'⟩) Y9 from ⟨_, _, rfl, hI9.on (below_none D2), hT9.on (below_none D2)⟩) (show SetAt _ (SC.val ⟨S.absent, ai, S.ints.length, ci, S.co, az, S.strs.length, cz⟩) S from ⟨_, _, rfl, hI.on (below_none D), hT.on (below_none D)⟩) (fun _ => hfk) hfS hq hqm).mono ?_
                                      rintro r v24 (⟨rfl, kb⟩)
                                      replace D := grown_below D kb
                                      replace HE := HE.on kb
                                      replace D2 := grown_below D2 kb
                                      replace G8 := heap_on G8 kb
                                      replace G11 := heap_on G11 kb
                                      replace D3 := grown_below D3 kb
                                      replace G19 := heap_on G19 kb
                                      clear kb
                                      refine Or.inl ⟨.bool false, ret_bool hin, ⟨fun _ _ => ⟨G8, G11, G19⟩, ?_⟩⟩
                                      simp only [Act.put, lzA, lzB, lzC]
                                      refine wpAnyL_pure (i := 10) (oi := ⟨_, _, _, _, _, _⟩) (v := .bool false) rfl (by kernel_rfl) (by kernel_rfl) (by kernel_rfl) (fun _ _ _ h => h) (yq_neqB (by rfl) _ _ _ rfl false false rfl rfl) ?_
                                      simp only [Act.put, lzA, lzB, lzC]
                                      refine wpAnyL_pure (i := 11) (oi := ⟨_, _, _, _, _, _⟩) (v := .bool false) rfl (by kernel_rfl) (by kernel_rfl) (by kernel_rfl) (fun _ _ _ h => h) (yl_pickT (by rfl) _ _ _ rfl rfl _ rfl) ?_
                                      simp only [Act.put, lzA, lzB, lzC]
                                      refine wpAnyL_done (by kernel_rfl) ?_ _
                                      refine hK25 _ _ ?_
                                      clear hK25 K25
                                      refine wp_cond_false rfl ?_
                                      refine wp_skip ?_
                                      refine hK23 _ _ ?_
                                      clear hK23 K23
                                      refine wp_region_lit ?_
                                      refine wl_yield (o := ⟨_, _, _, _, _, _⟩) (.int .i64 (n + 1 : Nat)) (yt_addI (by rfl) _ _ _ rfl ((n : Nat) : Int) 1 ((n + 1 : Nat) : Int) rfl rfl (by omega) (by omega) (by omega)) ?_
                                      simp only [Act.put, lzA, lzB, lzC]
                                      refine wl_yield (o := ⟨_, _, _, _, _, _⟩) (.int .i64 (n + 1 : Nat)) (yl_move (by rfl) _ rfl _ rfl) ?_
                                      simp only [Act.put, lzA, lzB, lzC]
                                      refine wpList_nil ?_
                                      show _ ∧ _
                                      go_roundw
                                      case rel => exact ⟨n + 1, rfl, by omega, G11, G8, HE, D3, D2, D⟩
                                      case measure => simp [intOf]; omega
                                    · have hin : hasP S q = true := hwh.symm.trans hs2
                                      refine wp_region_late (S := fun w' => w'.heap[g8]? = some (.cells #[.bool (S.absent), .slice ai S.ints.length ci, .bool (S.co), .slice az S.strs.length cz] 26 (0, 0)) ∧ w'.heap[g11]? = some (.cells #[.bool (Y9.absent), .slice ai' Y9.ints.length ci', .bool (Y9.co), .slice az' Y9.strs.length cz'] 26 (0, 0)) ∧ w'.heap[g19]? = some (.cells #[.int .i64 (p.1), .int .i64 (p.2.1), .string p.2.2] 48 (0, 0))) (late := fun j => [].contains j) (by kernel_rfl) ?_
                                      have kb : Below v20.heap.size v20 v20.drew := (Below.refl _ v20).drew
                                      replace D := grown_below D kb
                                      replace HE := HE.on kb
                                      replace D2 := grown_below D2 kb
                                      replace G8 := heap_on G8 kb
                                      replace G11 := heap_on G11 kb
                                      replace D3 := grown_below D3 kb
                                      replace G19 := heap_on G19 kb
                                      clear kb
                                      generalize v20.drew = v21 at D HE D2 G8 G11 D3 G19 ⊢
                                      refine wpAnyL_load (i := 0) (oi := ⟨_, _, _, _, _, _⟩) (v := .agg #[.bool (Y9.absent), .slice ai' Y9.ints.length ci', .bool (Y9.co), .slice az' Y9.strs.length cz']) rfl (by kernel_rfl) (by kernel_rfl) (by kernel_rfl) (by kernel_rfl) (fun _ _ _ h => h) (yl_set (by rfl) _ rfl _ 0 rfl _ _ _ _ (fun _ h => ⟨cell_heap h.2.1 0, cell_heap h.2.1 1, cell_heap h.2.1 2, cell_heap h.2.1 3⟩)) ⟨G8, G11, G19⟩ ?_
                                      simp only [Act.put, lzA, lzB, lzC]
                                      refine wpAnyL_load (i := 1) (oi := ⟨_, _, _, _, _, _⟩) (v := vVal p) rfl (by kernel_rfl) (by kernel_rfl) (by kernel_rfl) (by kernel_rfl) (fun _ _ _ h => h) (yl_val (by rfl) _ rfl _ 0 rfl _ _ _ (fun _ h => ⟨cell_heap h.2.2 0, cell_heap h.2.2 1, cell_heap h.2.2 2⟩)) ⟨G8, G11, G19⟩ ?_
                                      simp only [Act.put, lzA, lzB, lzC]
                                      refine wpAnyL_all (rs := [2]) (by kernel_rfl) (by simp) ?_
                                      intro j hj
                                      have hj := List.mem_singleton.1 hj
                                      subst hj
                                      refine ot_call (o := ⟨_, _, _, _, _, _⟩) rfl (by rfl) 23 _ _ rfl #[.agg #[.bool (Y9.absent), .slice ai' Y9.ints.length ci', .bool (Y9.co), .slice az' Y9.strs.length cz'], vVal p] rfl (run_call Tryz.func23 (by kernel_rfl) (by kernel_rfl)) ?_
                                      refine (refHas_any _ Y9 p.1 p.2.1 p.2.2 _ (show SetAt _ (SC.val ⟨Y9.absent, ai', Y9.ints.length, ci', Y9.co, az', Y9.strs.length, cz'⟩) Y9 from ⟨_, _, rfl, hI9.on (below_none D2), hT9.on (below_none D2)⟩) hsp).mono ?_
                                      rintro r v22 (⟨rfl, kb⟩)
                                      replace D := grown_below D kb
                                      replace HE := HE.on kb
                                      replace D2 := grown_below D2 kb
                                      replace G8 := heap_on G8 kb
                                      replace G11 := heap_on G11 kb
                                      replace D3 := grown_below D3 kb
                                      replace G19 := heap_on G19 kb
                                      clear kb
                                      refine Or.inl ⟨.bool true, ret_bool hh, ⟨fun _ _ => ⟨G8, G11, G19⟩, ?_⟩⟩
                                      simp only [Act.put, lzA, lzB, lzC]
                                      refine wpAnyL_pure (i := 3) (oi := ⟨_, _, _, _, _, _⟩) (v := .bool true) rfl (by kernel_rfl) (by kernel_rfl) (by kernel_rfl) (fun _ _ _ h => h) (yl_move (by rfl) _ rfl _ rfl) ?_
                                      simp only [Act.put, lzA, lzB, lzC]
                                      refine wpAnyL_load (i := 4) (oi := ⟨_, _, _, _, _, _⟩) (v := .agg #[.bool (S.absent), .slice ai S.ints.length ci, .bool (S.co), .slice az S.strs.length cz]) rfl (by kernel_rfl) (by kernel_rfl) (by kernel_rfl) (by kernel_rfl) (fun _ _ _ h => h) (yl_set (by rfl) _ rfl _ 0 rfl _ _ _ _ (fun _ h => ⟨cell_heap h.1 0, cell_heap h.1 1, cell_heap h.1 2, cell_heap h.1 3⟩)) ⟨G8, G11, G19⟩ ?_
                                      simp only [Act.put, lzA, lzB, lzC]
                                      refine wpAnyL_load (i := 5) (oi := ⟨_, _, _, _, _, _⟩) (v := vVal p) rfl (by kernel_rfl) (by kernel_rfl) (by kernel_rfl) (by kernel_rfl) (fun _ _ _ h => h) (yl_val (by rfl) _ rfl _ 0 rfl _ _ _ (fun _ h => ⟨cell_heap h.2.2 0, cell_heap h.2.2 1, cell_heap h.2.2 2⟩)) ⟨G8, G11, G19⟩ ?_
                                      simp only [Act.put, lzA, lzB, lzC]
                                      refine wpAnyL_load (i := 7) (oi := ⟨_, _, _, _, _, _⟩) (v := .agg #[.bool (Y9.absent), .slice ai' Y9.ints.length ci', .bool (Y9.co), .slice az' Y9.strs.length cz']) rfl (by kernel_rfl) (by kernel_rfl) (by kernel_rfl) (by kernel_rfl) (fun _ _ _ h => h) (yl_set (by rfl) _ rfl _ 0 rfl _ _ _ _ (fun _ h => ⟨cell_heap h.2.1 0, cell_heap h.2.1 1, cell_heap h.2.1 2, cell_heap h.2.1 3⟩)) ⟨G8, G11, G19⟩ ?_
                                      simp only [Act.put, lzA, lzB, lzC]
                                      refine wpAnyL_load (i := 8) (oi := ⟨_, _, _, _, _, _⟩) (v := .agg #[.bool (S.absent), .slice ai S.ints.length ci, .bool (S.co), .slice az S.strs.length cz]) rfl (by kernel_rfl) (by kernel_rfl) (by kernel_rfl) (by kernel_rfl) (fun _ _ _ h => h) (yl_set (by rfl) _ rfl _ 0 rfl _ _ _ _ (fun _ h => ⟨cell_heap h.1 0, cell_heap h.1 1, cell_heap h.1 2, cell_heap h.1 3⟩)) ⟨G8, G11, G19⟩ ?_
                                      simp only [Act.put, lzA, lzB, lzC]
                                      refine wpAnyL_all (rs := [6]) (by kernel_rfl) (by simp) ?_
                                      intro j hj
                                      have hj := List.mem_singleton.1 hj
                                      subst hj
                                      refine ot_call (o := ⟨_, _, _, _, _, _⟩) rfl (by rfl) 23 _ _ rfl #[.agg #[.bool (S.absent), .slice ai S.ints.length ci, .bool (S.co), .slice az S.strs.length cz], vVal p] rfl (run_call Tryz.func23 (by kernel_rfl) (by kernel_rfl)) ?_
                                      refine (refHas_any _ S p.1 p.2.1 p.2.2 _ (show SetAt _ (SC.val ⟨S.absent, ai, S.ints.length, ci, S.co, az, S.strs.length, cz⟩) S from ⟨_, _, rfl, hI.on (below_none D), hT.on (below_none D)⟩) hsp).mono ?_
                                      rintro r v23 (⟨rfl, kb⟩)
                                      replace D := grown_below D kb
                                      replace HE := HE.on kb
                                      replace D2 := grown_below D2 kb
                                      replace G8 := heap_on G8 kb
                                      replace G11 := heap_on G11 kb
                                      replace D3 := grown_below D3 kb
                                      replace G19 := heap_on G19 kb
                                      clear kb
                                      refine Or.inl ⟨.bool true, ret_bool hs2, ⟨fun _ _ => ⟨G8, G11, G19⟩, ?_⟩⟩
                                      simp only [Act.put, lzA, lzB, lzC]
                                      refine wpAnyL_all (rs := [9]) (by kernel_rfl) (by simp) ?_
                                      intro j hj
                                      have hj := List.mem_singleton.1 hj
                                      subst hj
                                      refine ot_call (o := ⟨_, _, _, _, _, _⟩) rfl (by rfl) 24 _ _ rfl #[.agg #[.bool (Y9.absent), .slice ai' Y9.ints.length ci', .bool (Y9.co), .slice az' Y9.strs.length cz'], .agg #[.bool (S.absent), .slice ai S.ints.length ci, .bool (S.co), .slice az S.strs.length cz]] rfl (run_call Tryz.func24 (by kernel_rfl) (by kernel_rfl)) ?_
                                      refine (in_any _ _ Y9 S q _ HE (show SetAt _ (SC.val ⟨Y9.absent, ai', Y9.ints.length, ci', Y9.co, az', Y9.strs.length, cz'⟩) Y9 from ⟨_, _, rfl, hI9.on (below_none D2), hT9.on (below_none D2)⟩) (show SetAt _ (SC.val ⟨S.absent, ai, S.ints.length, ci, S.co, az, S.strs.length, cz⟩) S from ⟨_, _, rfl, hI.on (below_none D), hT.on (below_none D)⟩) (fun _ => hfk) hfS hq hqm).mono ?_
                                      rintro r v24 (⟨rfl, kb⟩)
                                      replace D := grown_below D kb
                                      replace HE := HE.on kb
                                      replace D2 := grown_below D2 kb
                                      replace G8 := heap_on G8 kb
                                      replace G11 := heap_on G11 kb
                                      replace D3 := grown_below D3 kb
                                      replace G19 := heap_on G19 kb
                                      clear kb
                                      refine Or.inl ⟨.bool true, ret_bool hin, ⟨fun _ _ => ⟨G8, G11, G19⟩, ?_⟩⟩
                                      simp only [Act.put, lzA, lzB, lzC]
                                      refine wpAnyL_pure (i := 10) (oi := ⟨_, _, _, _, _, _⟩) (v := .bool false) rfl (by kernel_rfl) (by kernel_rfl) (by kernel_rfl) (fun _ _ _ h => h) (yq_neqB (by rfl) _ _ _ rfl true true rfl rfl) ?_
                                      simp only [Act.put, lzA, lzB, lzC]
                                      refine wpAnyL_pure (i := 11) (oi := ⟨_, _, _, _, _, _⟩) (v := .bool false) rfl (by kernel_rfl) (by kernel_rfl) (by kernel_rfl) (fun _ _ _ h => h) (yl_pickT (by rfl) _ _ _ rfl rfl _ rfl) ?_
                                      simp only [Act.put, lzA, lzB, lzC]
                                      refine wpAnyL_done (by kernel_rfl) ?_ _
                                      refine hK25 _ _ ?_
                                      clear hK25 K25
                                      refine wp_cond_false rfl ?_
                                      refine wp_skip ?_
                                      refine hK23 _ _ ?_
                                      clear hK23 K23
                                      refine wp_region_lit ?_
                                      refine wl_yield (o := ⟨_, _, _, _, _, _⟩) (.int .i64 (n + 1 : Nat)) (yt_addI (by rfl) _ _ _ rfl ((n : Nat) : Int) 1 ((n + 1 : Nat) : Int) rfl rfl (by omega) (by omega) (by omega)) ?_
                                      simp only [Act.put, lzA, lzB, lzC]
                                      refine wl_yield (o := ⟨_, _, _, _, _, _⟩) (.int .i64 (n + 1 : Nat)) (yl_move (by rfl) _ rfl _ rfl) ?_
                                      simp only [Act.put, lzA, lzB, lzC]
                                      refine wpList_nil ?_
                                      show _ ∧ _
                                      go_roundw
                                      case rel => exact ⟨n + 1, rfl, by omega, G11, G8, HE, D3, D2, D⟩
                                      case measure => simp [intOf]; omega
                                · obtain rfl : n = P9.length := by omega
                                  refine wp_seq_k (fun K21 hK21 => ?_)
                                  refine wp_region_lit ?_
                                  refine wl_yield (o := ⟨_, _, _, _, _, _⟩) (.bool false) (yt_lssI (by rfl) _ _ _ rfl ((P9.length : Nat) : Int) ((P9.length : Nat) : Int) false rfl rfl (decide_eq_false (by omega))) ?_
                                  simp only [Act.put, lzA, lzB, lzC]
                                  refine wpList_nil ?_
                                  refine hK21 _ _ ?_
                                  clear hK21 K21
                                  refine wp_seq_k (fun K22 hK22 => ?_)
                                  refine wp_cond_false rfl ?_
                                  refine wp_exit ?_
                                  refine hK18 _ _ ?_
                                  clear hK22 K22 hK18 K18
                                  refine wp_region_lit ?_
                                  refine wl_yield (o := ⟨_, _, _, _, _, _⟩) (.int .i64 (j + 1 : Nat)) (yt_addI (by rfl) _ _ _ rfl ((j : Nat) : Int) 1 ((j + 1 : Nat) : Int) rfl rfl (by omega) (by omega) (by omega)) ?_
                                  simp only [Act.put, lzA, lzB, lzC]
                                  refine wl_yield (o := ⟨_, _, _, _, _, _⟩) (.int .i64 (j + 1 : Nat)) (yl_move (by rfl) _ rfl _ rfl) ?_
                                  simp only [Act.put, lzA, lzB, lzC]
                                  refine wpList_nil ?_
                                  show _ ∧ _
                                  go_roundw
                                  case rel => exact ⟨j + 1, rfl, by omega, G8, HE, D2, D⟩
                                  case measure => simp [intOf]; omega
                          · refine ot_row1Q (o := ⟨_, _, _, _, _, _⟩) rfl (by rfl) _ rfl ⟨Y9.absent, ai', Y9.ints.length, ci', Y9.co, az', Y9.strs.length, cz'⟩ rfl (fun v14 g14 hg G14 kb => ?_)
                            have n_g8_g14 : g8 ≠ g14 := by have := lt_heap G8; omega
                            have n_g11_g14 : g11 ≠ g14 := by have := lt_heap G11; omega
                            have ge_g14 : w.heap.size ≤ g14 := Nat.le_trans D.size hg
                            have ge_D2_g14 : v5.heap.size ≤ g14 := Nat.le_trans D2.size hg
                            have six_g14 : 2 ≤ g14 := Nat.le_trans w6 ge_g14
                            clear hg
                            replace D := grown_below D kb
                            replace HE := HE.on kb
                            replace D2 := grown_below D2 kb
                            replace G8 := heap_on G8 kb
                            replace G11 := heap_on G11 kb
                            replace D4 := grown_below D4 kb
                            clear kb
                            refine ⟨fun _ _ => G11, ?_⟩
                            simp only [Act.put, lzA, lzB, lzC]
                            refine wpAnyL_all (rs := [0]) (by kernel_rfl) (by simp) ?_
                            intro j hj
                            have hj := List.mem_singleton.1 hj
                            subst hj
                            refine ot_row0Q (o := ⟨_, _, _, _, _, _⟩) rfl (by rfl) rfl (fun v15 g15 RT kb => ?_)
                            have ne04 : g15 ≠ g14 := by
                              have h1 := (World.ownsRow.lt RT g15 rfl).1
                              have h2 := lt_heap G14
                              omega
                            replace RT := OwnT.mono RT D4.size
                            replace D := grown_below D kb
                            replace HE := HE.on kb
                            replace D2 := grown_below D2 kb
                            replace G8 := heap_on G8 kb
                            replace G11 := heap_on G11 kb
                            replace D4 := grown_below D4 kb
                            replace G14 := heap_on G14 kb
                            clear kb
                            refine ⟨fun _ _ => G11, ?_⟩
                            simp only [Act.put, lzA, lzB, lzC]
                            refine wpAnyL_all (rs := [2]) (by kernel_rfl) (by simp) ?_
                            intro j hj
                            have hj := List.mem_singleton.1 hj
                            subst hj
                            refine ot_appRowT (o := ⟨_, _, _, _, _, _⟩) rfl (by rfl) _ _ rfl v12.heap.size _ _ [] cs0 rfl RT rfl (hR0.on (below_none D)) hn0 (by simp; have := hA0.1; omega) D4.size (fun v16' v16 RT' kg => ?_)
                            replace HE := HE.below HE0.big (OwnT.below (OwnT.mono RT m9) D.size kg)
                            replace D2 := gr_own D2 (fun g hg => Nat.le_trans m29 (World.ownsRow.lt RT g hg).1) kg
                            replace G8 := heap_gro G8 kg (fun e => by have := (World.ownsRow.lt RT _ e).1; omega)
                            replace G11 := heap_gro G11 kg (fun e => by have := (World.ownsRow.lt RT _ e).1; omega)
                            replace G14 := heap_gro G14 kg (fun e => ne04 (by cases e; rfl))
                            replace D4 := gr_own D4 (fun g hg => (World.ownsRow.lt RT g hg).1) kg
                            replace D := gr_own D (fun g hg => Nat.le_trans m9 (World.ownsRow.lt RT g hg).1) kg
                            replace RT := RT'
                            clear RT' kg
                            rw [List.nil_append] at RT
                            refine ⟨fun _ _ => G11, ?_⟩
                            simp only [Act.put, lzA, lzB, lzC]
                            refine wpAnyL_all (rs := [5]) (by kernel_rfl) (by simp) ?_
                            intro j hj
                            have hj := List.mem_singleton.1 hj
                            subst hj
                            refine ot_appRowT (o := ⟨_, _, _, _, _, _⟩) rfl (by rfl) _ _ rfl v12.heap.size _ _ cs0 [⟨Y9.absent, ai', Y9.ints.length, ci', Y9.co, az', Y9.strs.length, cz'⟩] rfl RT rfl (OwnT.row (ownT_one (c := ⟨Y9.absent, ai', Y9.ints.length, ci', Y9.co, az', Y9.strs.length, cz'⟩) G14 (Nat.le_refl _)) (by simp)) (OwnT.nilOkQ (ownT_one (c := ⟨Y9.absent, ai', Y9.ints.length, ci', Y9.co, az', Y9.strs.length, cz'⟩) G14 (Nat.le_refl _))) (by simp; have := hA0.1; omega) D4.size (fun v17' v17 RT' kg => ?_)
                            replace HE := HE.below HE0.big (OwnT.below (OwnT.mono RT m9) D.size kg)
                            replace D2 := gr_own D2 (fun g hg => Nat.le_trans m29 (World.ownsRow.lt RT g hg).1) kg
                            replace G8 := heap_gro G8 kg (fun e => by have := (World.ownsRow.lt RT _ e).1; omega)
                            replace G11 := heap_gro G11 kg (fun e => by have := (World.ownsRow.lt RT _ e).1; omega)
                            replace D4 := gr_own D4 (fun g hg => (World.ownsRow.lt RT g hg).1) kg
                            replace D := gr_own D (fun g hg => Nat.le_trans m9 (World.ownsRow.lt RT g hg).1) kg
                            replace RT := RT'
                            clear RT' kg
                            refine ⟨fun _ _ => G11, ?_⟩
                            simp only [Act.put, lzA, lzB, lzC]
                            refine wpAnyL_all (rs := [6]) (by kernel_rfl) (by simp) ?_
                            intro j hj
                            have hj := List.mem_singleton.1 hj
                            subst hj
                            refine ot_call (o := ⟨_, _, _, _, _, _⟩) rfl (by rfl) 22 _ _ rfl #[v17'] rfl (run_call Tryz.func22 (by kernel_rfl) (by kernel_rfl)) ?_
                            refine (refPoints_any _ (l ++ [Y9]) _ (sets_of_row (OwnT.row RT (by simp; have := hA0.1; omega)) (allSt_append (hA0.on (below_none D)) ⟨rfl, fun i hi => by
                                rw [List.length_singleton] at hi
                                obtain rfl : i = 0 := by omega
                                exact (show SetAt _ (SC.val ⟨Y9.absent, ai', Y9.ints.length, ci', Y9.co, az', Y9.strs.length, cz'⟩) Y9 from ⟨_, _, rfl, hI9.on (below_none D2), hT9.on (below_none D2)⟩)⟩)) (by simp; omega) hpts).mono ?_
                            rintro r v18 (⟨⟨u7, t7, rfl, HF7, HO7⟩, kb⟩)
                            replace D := grown_below D kb
                            replace HE := HE.on kb
                            replace D2 := grown_below D2 kb
                            replace G8 := heap_on G8 kb
                            replace G11 := heap_on G11 kb
                            replace D4 := grown_below D4 kb
                            replace RT := OwnT.on RT kb
                            clear kb
                            have hPl : 0 < (ptsL (l ++ [Y9]) ++ [((2, 0, t7) : Va)]).length := by simp
                            have hPm : (ptsL (l ++ [Y9]) ++ [((2, 0, t7) : Va)]).length ≤ 1000000 := by
                              have h1 := ptsL_len9 (l ++ [Y9]) hpts
                              have h2 : (l ++ [Y9]).length ≤ 13 := by rw [List.length_append, List.length_singleton]; omega
                              have h3 := Nat.mul_le_mul_right 5000 h2
                              rw [List.length_append, List.length_singleton]
                              omega
                            have szP : ∀ p ∈ ptsL (l ++ [Y9]) ++ [((2, 0, t7) : Va)], p.2.2.size ≤ maxLen := fun p hp => by
                              rcases List.mem_append.1 hp with hp | hp
                              · exact ptsL_size (l ++ [Y9]) maxLen hptz p hp
                              · rw [List.mem_singleton.1 hp]
                                have := fresh_size HF7
                                show t7.size ≤ maxLen
                                unfold maxLen; omega
                            generalize ptsL (l ++ [Y9]) ++ [((2, 0, t7) : Va)] = P9 at HO7 hPl hPm szP
                            obtain ⟨gP, capP, rfl, -, hgP⟩ := HO7.form hPl
                            clear HF7 RT
                            have D3 : v18.grownBy v18 none := grown_refl _ _
                            refine Or.inl ⟨.slice (some ⟨gP, 0, none⟩) P9.length capP, rfl, ⟨fun _ _ => G11, ?_⟩⟩
                            simp only [Act.put, lzA, lzB, lzC]
                            refine wpAnyL_pure (i := 7) (oi := ⟨_, _, _, _, _, _⟩) (v := .int .i64 (P9.length : Nat)) rfl (by kernel_rfl) (by kernel_rfl) (by kernel_rfl) (fun _ _ _ h => h) (yt_lenW (by rfl) _ rfl (some ⟨gP, 0, none⟩) P9.length capP rfl) ?_
                            simp only [Act.put, lzA, lzB, lzC]
                            refine wpAnyL_done (by kernel_rfl) ?_ _
                            refine hK20 _ _ ?_
                            clear hK20 K20
                            refine wp_block ?_
                            go_loopw [55] (fun i wr => ∃ (n : Nat), i = .int .i64 ((n : Nat) : Int) ∧ n ≤ P9.length ∧ wr.heap[g11]? = some (.cells #[.bool (Y9.absent), .slice ai' Y9.ints.length ci', .bool (Y9.co), .slice az' Y9.strs.length cz'] 26 (0, 0)) ∧ wr.heap[g8]? = some (.cells #[.bool (S.absent), .slice ai S.ints.length ci, .bool (S.co), .slice az S.strs.length cz] 26 (0, 0)) ∧ Env wr ∧ v18.grownBy wr none ∧ v5.grownBy wr none ∧ w.grownBy wr none) (fun i _ => P9.length - (intOf i).toNat)
                            case atStart => exact ⟨0, rfl, Nat.zero_le _, G11, G8, HE, D3, D2, D⟩
                            case round =>
                              clear D D2 D3 HE G11 G8
                              obtain ⟨n, rfl, hn, G11, G8, HE, D3, D2, D⟩ := hrel
                              by_cases hln : n < P9.length
                              · obtain ⟨P0, P1, P2⟩ := HO7.at n hln
                                have hsp : (P9.getD n noVa).2.2.size ≤ maxLen := szP _ (gD_mem hln)
                                generalize P9.getD n noVa = p at P0 P1 P2 hsp
                                have cellP := fun (W : World) (D : v18.grownBy W none) (j : Nat) => (below_none D).cell (p := ⟨gP, j, none⟩) hgP
                                refine wp_seq_k (fun K21 hK21 => ?_)
                                refine wp_region_lit ?_
                                refine wl_yield (o := ⟨_, _, _, _, _, _⟩) (.bool true) (yt_lssI (by rfl) _ _ _ rfl ((n : Nat) : Int) ((P9.length : Nat) : Int) true rfl rfl (decide_eq_true (by omega))) ?_
                                simp only [Act.put, lzA, lzB, lzC]
                                refine wpList_nil ?_
                                refine hK21 _ _ ?_
                                clear hK21 K21
                                refine wp_seq_k (fun K22 hK22 => ?_)
                                refine wp_cond_true rfl ?_
                                refine wp_skip ?_
                                refine hK22 _ _ ?_
                                clear hK22 K22
                                refine wp_seq_k (fun K23 hK23 => ?_)
                                refine wp_block ?_
                                refine wp_seq_k (fun K24 hK24 => ?_)
                                refine wp_region_lit ?_
                                refine wl_yield (o := ⟨_, _, _, _, _, _⟩) (.pointer (some ⟨gP, 0 + n * 3, none⟩)) (yt_atW (by rfl) _ _ rfl gP 0 _ _ n rfl rfl (hln)) ?_
                                simp only [Act.put, lzA, lzB, lzC]
                                refine wl_yield (o := ⟨_, _, _, _, _, _⟩) (vVal p) (yl_val (by rfl) _ rfl _ _ rfl _ _ _ (fun _ h => by subst h; rw [Nat.zero_add]; exact ⟨(cellP _ D3 _).trans P0, (cellP _ D3 _).trans P1, (cellP _ D3 _).trans P2⟩)) ?_
                                simp only [Act.put, lzA, lzB, lzC]
                                refine wt_allocVa (o := ⟨_, _, _, _, _, _⟩) (by rfl) rfl (fun v19 g19 hg G19 kb => ?_)
                                simp only [Act.put, lzA, lzB, lzC]
                                have n_g8_g19 : g8 ≠ g19 := by have := lt_heap G8; omega
                                have n_g11_g19 : g11 ≠ g19 := by have := lt_heap G11; omega
                                have ge_g19 : w.heap.size ≤ g19 := Nat.le_trans D.size hg
                                have ge_D2_g19 : v5.heap.size ≤ g19 := Nat.le_trans D2.size hg
                                have ge_D3_g19 : v18.heap.size ≤ g19 := Nat.le_trans D3.size hg
                                have six_g19 : 2 ≤ g19 := Nat.le_trans w6 ge_g19
                                clear hg
                                replace D := grown_below D kb
                                replace HE := HE.on kb
                                replace D2 := grown_below D2 kb
                                replace G8 := heap_on G8 kb
                                replace G11 := heap_on G11 kb
                                replace D3 := grown_below D3 kb
                                clear kb
                                replace G19 : v19.heap[g19]? = some (.cells #[.int .i64 0, .int .i64 0, .string (bs ([]))] 48 (0, 0)) := G19
                                refine wt_putVa (o := ⟨_, _, _, _, _, _⟩) rfl _ _ rfl _ rfl (p) rfl G19 rfl (fun v20 X kg => ?_)
                                simp only [Act.put, lzA, lzB, lzC]
                                replace D := gr_new D ge_g19 kg
                                replace HE := Env.gr HE kg six_g19
                                replace D2 := gr_new D2 ge_D2_g19 kg
                                replace G8 := heap_gr G8 kg n_g8_g19
                                replace G11 := heap_gr G11 kg n_g11_g19
                                replace D3 := gr_new D3 ge_D3_g19 kg
                                clear kg
                                replace G19 : v20.heap[g19]? = some (.cells #[.int .i64 (p.1), .int .i64 (p.2.1), .string p.2.2] 48 (0, 0)) := X
                                clear X
                                refine wpList_nil ?_
                                refine hK24 _ _ ?_
                                clear hK24 K24
                                refine wp_seq_k (fun K25 hK25 => ?_)
                                cases hh : hasP Y9 p
                                · refine wp_region_late (S := fun w' => w'.heap[g8]? = some (.cells #[.bool (S.absent), .slice ai S.ints.length ci, .bool (S.co), .slice az S.strs.length cz] 26 (0, 0)) ∧ w'.heap[g11]? = some (.cells #[.bool (Y9.absent), .slice ai' Y9.ints.length ci', .bool (Y9.co), .slice az' Y9.strs.length cz'] 26 (0, 0)) ∧ w'.heap[g19]? = some (.cells #[.int .i64 (p.1), .int .i64 (p.2.1), .string p.2.2] 48 (0, 0))) (late := fun j => [].contains j) (by kernel_rfl) ?_
                                  have kb : Below v20.heap.size v20 v20.drew := (Below.refl _ v20).drew
                                  replace D := grown_below D kb
                                  replace HE := HE.on kb
                                  replace D2 := grown_below D2 kb
                                  replace G8 := heap_on G8 kb
                                  replace G11 := heap_on G11 kb
                                  replace D3 := grown_below D3 kb
                                  replace G19 := heap_on G19 kb
                                  clear kb
                                  generalize v20.drew = v21 at D HE D2 G8 G11 D3 G19 ⊢
                                  refine wpAnyL_load (i := 0) (oi := ⟨_, _, _, _, _, _⟩) (v := .agg #[.bool (Y9.absent), .slice ai' Y9.ints.length ci', .bool (Y9.co), .slice az' Y9.strs.length cz']) rfl (by kernel_rfl) (by kernel_rfl) (by kernel_rfl) (by kernel_rfl) (fun _ _ _ h => h) (yl_set (by rfl) _ rfl _ 0 rfl _ _ _ _ (fun _ h => ⟨cell_heap h.2.1 0, cell_heap h.2.1 1, cell_heap h.2.1 2, cell_heap h.2.1 3⟩)) ⟨G8, G11, G19⟩ ?_
                                  simp only [Act.put, lzA, lzB, lzC]
                                  refine wpAnyL_load (i := 1) (oi := ⟨_, _, _, _, _, _⟩) (v := vVal p) rfl (by kernel_rfl) (by kernel_rfl) (by kernel_rfl) (by kernel_rfl) (fun _ _ _ h => h) (yl_val (by rfl) _ rfl _ 0 rfl _ _ _ (fun _ h => ⟨cell_heap h.2.2 0, cell_heap h.2.2 1, cell_heap h.2.2 2⟩)) ⟨G8, G11, G19⟩ ?_
                                  simp only [Act.put, lzA, lzB, lzC]
                                  refine wpAnyL_all (rs := [2]) (by kernel_rfl) (by simp) ?_
                                  intro j hj
                                  have hj := List.mem_singleton.1 hj
                                  subst hj
                                  refine ot_call (o := ⟨_, _, _, _, _, _⟩) rfl (by rfl) 23 _ _ rfl #[.agg #[.bool (Y9.absent), .slice ai' Y9.ints.length ci', .bool (Y9.co), .slice az' Y9.strs.length cz'], vVal p] rfl (run_call Tryz.func23 (by kernel_rfl) (by kernel_rfl)) ?_
                                  refine (refHas_any _ Y9 p.1 p.2.1 p.2.2 _ (show SetAt _ (SC.val ⟨Y9.absent, ai', Y9.ints.length, ci', Y9.co, az', Y9.strs.length, cz'⟩) Y9 from ⟨_, _, rfl, hI9.on (below_none D2), hT9.on (below_none D2)⟩) hsp).mono ?_
                                  rintro r v22 (⟨rfl, kb⟩)
                                  replace D := grown_below D kb
                                  replace HE := HE.on kb
                                  replace D2 := grown_below D2 kb
                                  replace G8 := heap_on G8 kb
                                  replace G11 := heap_on G11 kb
                                  replace D3 := grown_below D3 kb
                                  replace G19 := heap_on G19 kb
                                  clear kb
                                  refine Or.inl ⟨.bool false, ret_bool hh, ⟨fun _ _ => ⟨G8, G11, G19⟩, ?_⟩⟩
                                  simp only [Act.put, lzA, lzB, lzC]
                                  refine wpAnyL_pure (i := 3) (oi := ⟨_, _, _, _, _, _⟩) (v := .bool false) rfl (by kernel_rfl) (by kernel_rfl) (by kernel_rfl) (fun _ _ _ h => h) (yl_move (by rfl) _ rfl _ rfl) ?_
                                  simp only [Act.put, lzA, lzB, lzC]
                                  refine wpAnyL_load (i := 4) (oi := ⟨_, _, _, _, _, _⟩) (v := undef) rfl (by kernel_rfl) (by kernel_rfl) (by kernel_rfl) (by kernel_rfl) (fun _ _ _ h => h) (yl_undef (by rfl)) ⟨G8, G11, G19⟩ ?_
                                  simp only [Act.put, lzA, lzB, lzC]
                                  refine wpAnyL_load (i := 5) (oi := ⟨_, _, _, _, _, _⟩) (v := undef) rfl (by kernel_rfl) (by kernel_rfl) (by kernel_rfl) (by kernel_rfl) (fun _ _ _ h => h) (yl_undef (by rfl)) ⟨G8, G11, G19⟩ ?_
                                  simp only [Act.put, lzA, lzB, lzC]
                                  refine wpAnyL_pure (i := 6) (oi := ⟨_, _, _, _, _, _⟩) (v := undef) rfl (by kernel_rfl) (by kernel_rfl) (by kernel_rfl) (fun _ _ _ h => h) (yl_undef (by rfl)) ?_
                                  simp only [Act.put, lzA, lzB, lzC]
                                  refine wpAnyL_load (i := 7) (oi := ⟨_, _, _, _, _, _⟩) (v := undef) rfl (by kernel_rfl) (by kernel_rfl) (by kernel_rfl) (by kernel_rfl) (fun _ _ _ h => h) (yl_undef (by rfl)) ⟨G8, G11, G19⟩ ?_
                                  simp only [Act.put, lzA, lzB, lzC]
                                  refine wpAnyL_load (i := 8) (oi := ⟨_, _, _, _, _, _⟩) (v := undef) rfl (by kernel_rfl) (by kernel_rfl) (by kernel_rfl) (by kernel_rfl) (fun _ _ _ h => h) (yl_undef (by rfl)) ⟨G8, G11, G19⟩ ?_
                                  simp only [Act.put, lzA, lzB, lzC]
                                  refine wpAnyL_pure (i := 9) (oi := ⟨_, _, _, _, _, _⟩) (v := undef) rfl (by kernel_rfl) (by kernel_rfl) (by kernel_rfl) (fun _ _ _ h => h) (yl_undef (by rfl)) ?_
                                  simp only [Act.put, lzA, lzB, lzC]
                                  refine wpAnyL_pure (i := 10) (oi := ⟨_, _, _, _, _, _⟩) (v := undef) rfl (by kernel_rfl) (by kernel_rfl) (by kernel_rfl) (fun _ _ _ h => h) (yl_undef (by rfl)) ?_
                                  simp only [Act.put, lzA, lzB, lzC]
                                  refine wpAnyL_pure (i := 11) (oi := ⟨_, _, _, _, _, _⟩) (v := .bool false) rfl (by kernel_rfl) (by kernel_rfl) (by kernel_rfl) (fun _ _ _ h => h) (yl_pickF (by rfl) _ _ _ rfl rfl _ rfl) ?_
                                  simp only [Act.put, lzA, lzB, lzC]
                                  refine wpAnyL_done (by kernel_rfl) ?_ _
                                  refine hK25 _ _ ?_
                                  clear hK25 K25
                                  refine wp_cond_false rfl ?_
                                  refine wp_skip ?_
                                  refine hK23 _ _ ?_
                                  clear hK23 K23
                                  refine wp_region_lit ?_
                                  refine wl_yield (o := ⟨_, _, _, _, _, _⟩) (.int .i64 (n + 1 : Nat)) (yt_addI (by rfl) _ _ _ rfl ((n : Nat) : Int) 1 ((n + 1 : Nat) : Int) rfl rfl (by omega) (by omega) (by omega)) ?_
                                  simp only [Act.put, lzA, lzB, lzC]
                                  refine wl_yield (o := ⟨_, _, _, _, _, _⟩) (.int .i64 (n + 1 : Nat)) (yl_move (by rfl) _ rfl _ rfl) ?_
                                  simp only [Act.put, lzA, lzB, lzC]
                                  refine wpList_nil ?_
                                  show _ ∧ _
                                  go_roundw
                                  case rel => exact ⟨n + 1, rfl, by omega, G11, G8, HE, D3, D2, D⟩
                                  case measure => simp [intOf]; omega
                                · have hwh : hasP S p = hasP S q := cell_whole (cut_of hil) hSm hr (i := j) hlj (show hasP ((cutL l).getD j noSet) p = true by rw [hX9]; exact hh) (show hasP ((cutL l).getD j noSet) q = true by rw [hX9]; exact hqh)
                                  cases hs2 : hasP S p
                                  · have hin : hasP S q = false := hwh.symm.trans hs2
                                    refine wp_region_late (S := fun w' => w'.heap[g8]? = some (.cells #[.bool (S.absent), .slice ai S.ints.length ci, .bool (S.co), .slice az S.strs.length cz] 26 (0, 0)) ∧ w'.heap[g11]? = some (.cells #[.bool (Y9.absent), .slice ai' Y9.ints.length ci', .bool (Y9.co), .slice az' Y9.strs.length cz'] 26 (0, 0)) ∧ w'.heap[g19]? = some (.cells #[.int .i64 (p.1), .int .i64 (p.2.1), .string p.2.2] 48 (0, 0))) (late := fun j => [].contains j) (by kernel_rfl) ?_
                                    have kb : Below v20.heap.size v20 v20.drew := (Below.refl _ v20).drew
                                    replace D := grown_below D kb
                                    replace HE := HE.on kb
                                    replace D2 := grown_below D2 kb
                                    replace G8 := heap_on G8 kb
                                    replace G11 := heap_on G11 kb
                                    replace D3 := grown_below D3 kb
                                    replace G19 := heap_on G19 kb
                                    clear kb
                                    generalize v20.drew = v21 at D HE D2 G8 G11 D3 G19 ⊢
                                    refine wpAnyL_load (i := 0) (oi := ⟨_, _, _, _, _, _⟩) (v := .agg #[.bool (Y9.absent), .slice ai' Y9.ints.length ci', .bool (Y9.co), .slice az' Y9.strs.length cz']) rfl (by kernel_rfl) (by kernel_rfl) (by kernel_rfl) (by kernel_rfl) (fun _ _ _ h => h) (yl_set (by rfl) _ rfl _ 0 rfl _ _ _ _ (fun _ h => ⟨cell_heap h.2.1 0, cell_heap h.2.1 1, cell_heap h.2.1 2, cell_heap h.2.1 3⟩)) ⟨G8, G11, G19⟩ ?_
                                    simp only [Act.put, lzA, lzB, lzC]
                                    refine wpAnyL_load (i := 1) (oi := ⟨_, _, _, _, _, _⟩) (v := vVal p) rfl (by kernel_rfl) (by kernel_rfl) (by kernel_rfl) (by kernel_rfl) (fun _ _ _ h => h) (yl_val (by rfl) _ rfl _ 0 rfl _ _ _ (fun _ h => ⟨cell_heap h.2.2 0, cell_heap h.2.2 1, cell_heap h.2.2 2⟩)) ⟨G8, G11, G19⟩ ?_
                                    simp only [Act.put, lzA, lzB, lzC]
                                    refine wpAnyL_all (rs := [2]) (by kernel_rfl) (by simp) ?_
                                    intro j hj
                                    have hj := List.mem_singleton.1 hj
                                    subst hj
                                    refine ot_call (o := ⟨_, _, _, _, _, _⟩) rfl (by rfl) 23 _ _ rfl #[.agg #[.bool (Y9.absent), .slice ai' Y9.ints.length ci', .bool (Y9.co), .slice az' Y9.strs.length cz'], vVal p] rfl (run_call Tryz.func23 (by kernel_rfl) (by kernel_rfl)) ?_
                                    refine (refHas_any _ Y9 p.1 p.2.1 p.2.2 _ (show SetAt _ (SC.val ⟨Y9.absent, ai', Y9.ints.length, ci', Y9.co, az', Y9.strs.length, cz'⟩) Y9 from ⟨_, _, rfl, hI9.on (below_none D2), hT9.on (below_none D2)⟩) hsp).mono ?_
                                    rintro r v22 (⟨rfl, kb⟩)
                                    replace D := grown_below D kb
                                    replace HE := HE.on kb
                                    replace D2 := grown_below D2 kb
                                    replace G8 := heap_on G8 kb
                                    replace G11 := heap_on G11 kb
                                    replace D3 := grown_below D3 kb
                                    replace G19 := heap_on G19 kb
                                    clear kb
                                    refine Or.inl ⟨.bool true, ret_bool hh, ⟨fun _ _ => ⟨G8, G11, G19⟩, ?_⟩⟩
                                    simp only [Act.put, lzA, lzB, lzC]
                                    refine wpAnyL_pure (i := 3) (oi := ⟨_, _, _, _, _, _⟩) (v := .bool true) rfl (by kernel_rfl) (by kernel_rfl) (by kernel_rfl) (fun _ _ _ h => h) (yl_move (by rfl) _ rfl _ rfl) ?_
                                    simp only [Act.put, lzA, lzB, lzC]
                                    refine wpAnyL_load (i := 4) (oi := ⟨_, _, _, _, _, _⟩) (v := .agg #[.bool (S.absent), .slice ai S.ints.length ci, .bool (S.co), .slice az S.strs.length cz]) rfl (by kernel_rfl) (by kernel_rfl) (by kernel_rfl) (by kernel_rfl) (fun _ _ _ h => h) (yl_set (by rfl) _ rfl _ 0 rfl _ _ _ _ (fun _ h => ⟨cell_heap h.1 0, cell_heap h.1 1, cell_heap h.1 2, cell_heap h.1 3⟩)) ⟨G8, G11, G19⟩ ?_
                                    simp only [Act.put, lzA, lzB, lzC]
                                    refine wpAnyL_load (i := 5) (oi := ⟨_, _, _, _, _, _⟩) (v := vVal p) rfl (by kernel_rfl) (by kernel_rfl) (by kernel_rfl) (by kernel_rfl) (fun _ _ _ h => h) (yl_val (by rfl) _ rfl _ 0 rfl _ _ _ (fun _ h => ⟨cell_heap h.2.2 0, cell_heap h.2.2 1, cell_heap h.2.2 2⟩)) ⟨G8, G11, G19⟩ ?_
                                    simp only [Act.put, lzA, lzB, lzC]
                                    refine wpAnyL_load (i := 7) (oi := ⟨_, _, _, _, _, _⟩) (v := .agg #[.bool (Y9.absent), .slice ai' Y9.ints.length ci', .bool (Y9.co), .slice az' Y9.strs.length cz']) rfl (by kernel_rfl) (by kernel_rfl) (by kernel_rfl) (by kernel_rfl) (fun _ _ _ h => h) (yl_set (by rfl) _ rfl _ 0 rfl _ _ _ _ (fun _ h => ⟨cell_heap h.2.1 0, cell_heap h.2.1 1, cell_heap h.2.1 2, cell_heap h.2.1 3⟩)) ⟨G8, G11, G19⟩ ?_
                                    simp only [Act.put, lzA, lzB, lzC]
                                    refine wpAnyL_load (i := 8) (oi := ⟨_, _, _, _, _, _⟩) (v := .agg #[.bool (S.absent), .slice ai S.ints.length ci, .bool (S.co), .slice az S.strs.length cz]) rfl (by kernel_rfl) (by kernel_rfl) (by kernel_rfl) (by kernel_rfl) (fun _ _ _ h => h) (yl_set (by rfl) _ rfl _ 0 rfl _ _ _ _ (fun _ h => ⟨cell_heap h.1 0, cell_heap h.1 1, cell_heap h.1 2, cell_heap h.1 3⟩)) ⟨G8, G11, G19⟩ ?_
                                    simp only [Act.put, lzA, lzB, lzC]
                                    refine wpAnyL_all (rs := [6]) (by kernel_rfl) (by simp) ?_
                                    intro j hj
                                    have hj := List.mem_singleton.1 hj
                                    subst hj
                                    refine ot_call (o := ⟨_, _, _, _, _, _⟩) rfl (by rfl) 23 _ _ rfl #[.agg #[.bool (S.absent), .slice ai S.ints.length ci, .bool (S.co), .slice az S.strs.length cz], vVal p] rfl (run_call Tryz.func23 (by kernel_rfl) (by kernel_rfl)) ?_
                                    refine (refHas_any _ S p.1 p.2.1 p.2.2 _ (show SetAt _ (SC.val ⟨S.absent, ai, S.ints.length, ci, S.co, az, S.strs.length, cz⟩) S from ⟨_, _, rfl, hI.on (below_none D), hT.on (below_none D)⟩) hsp).mono ?_
                                    rintro r v23 (⟨rfl, kb⟩)
                                    replace D := grown_below D kb
                                    replace HE := HE.on kb
                                    replace D2 := grown_below D2 kb
                                    replace G8 := heap_on G8 kb
                                    replace G11 := heap_on G11 kb
                                    replace D3 := grown_below D3 kb
                                    replace G19 := heap_on G19 kb
                                    clear kb
                                    refine Or.inl ⟨.bool false, ret_bool hs2, ⟨fun _ _ => ⟨G8, G11, G19⟩, ?_⟩⟩
                                    simp only [Act.put, lzA, lzB, lzC]
                                    refine wpAnyL_all (rs := [9]) (by kernel_rfl) (by simp) ?_
                                    intro j hj
                                    have hj := List.mem_singleton.1 hj
                                    subst hj
                                    refine ot_call (o := ⟨_, _, _, _, _, _⟩) rfl (by rfl) 24 _ _ rfl #[.agg #[.bool (Y9.absent), .slice ai' Y9.ints.length ci', .bool (Y9.co), .slice az' Y9.strs.length cz'], .agg #[.bool (S.absent), .slice ai S.ints.length ci, .bool (S.co), .slice az S.strs.length cz]] rfl (run_call Tryz.func24 (by kernel_rfl) (by kernel_rfl)) ?_
                                    refine (in_any _ _ Y9 S q _ HE (show SetAt _ (SC.val ⟨Y9.absent, ai', Y9.ints.length, ci', Y9.co, az', Y9.strs.length, cz'⟩) Y9 from ⟨_, _, rfl, hI9.on (below_none D2), hT9.on (below_none D2)⟩) (show SetAt _ (SC.val ⟨S.absent, ai, S.ints.length, ci, S.co, az, S.strs.length, cz⟩) S from ⟨_, _, rfl, hI.on (below_none D), hT.on (below_none D)⟩) (fun _ => hfk) hfS hq hqm).mono ?_
                                    rintro r v24 (⟨rfl, kb⟩)
                                    replace D := grown_below D kb
                                    replace HE := HE.on kb
                                    replace D2 := grown_below D2 kb
                                    replace G8 := heap_on G8 kb
                                    replace G11 := heap_on G11 kb
                                    replace D3 := grown_below D3 kb
                                    replace G19 := heap_on G19 kb
                                    clear kb
                                    refine Or.inl ⟨.bool false, ret_bool hin, ⟨fun _ _ => ⟨G8, G11, G19⟩, ?_⟩⟩
                                    simp only [Act.put, lzA, lzB, lzC]
                                    refine wpAnyL_pure (i := 10) (oi := ⟨_, _, _, _, _, _⟩) (v := .bool false) rfl (by kernel_rfl) (by kernel_rfl) (by kernel_rfl) (fun _ _ _ h => h) (yq_neqB (by rfl) _ _ _ rfl false false rfl rfl) ?_
                                    simp only [Act.put, lzA, lzB, lzC]
                                    refine wpAnyL_pure (i := 11) (oi := ⟨_, _, _, _, _, _⟩) (v := .bool false) rfl (by kernel_rfl) (by kernel_rfl) (by kernel_rfl) (fun _ _ _ h => h) (yl_pickT (by rfl) _ _ _ rfl rfl _ rfl) ?_
                                    simp only [Act.put, lzA, lzB, lzC]
                                    refine wpAnyL_done (by kernel_rfl) ?_ _
                                    refine hK25 _ _ ?_
                                    clear hK25 K25
                                    refine wp_cond_false rfl ?_
                                    refine wp_skip ?_
                                    refine hK23 _ _ ?_
                                    clear hK23 K23
                                    refine wp_region_lit ?_
                                    refine wl_yield (o := ⟨_, _, _, _, _, _⟩) (.int .i64 (n + 1 : Nat)) (yt_addI (by rfl) _ _ _ rfl ((n : Nat) : Int) 1 ((n + 1 : Nat) : Int) rfl rfl (by omega) (by omega) (by omega)) ?_
                                    simp only [Act.put, lzA, lzB, lzC]
                                    refine wl_yield (o := ⟨_, _, _, _, _, _⟩) (.int .i64 (n + 1 : Nat)) (yl_move (by rfl) _ rfl _ rfl) ?_
                                    simp only [Act.put, lzA, lzB, lzC]
                                    refine wpList_nil ?_
                                    show _ ∧ _
                                    go_roundw
                                    case rel => exact ⟨n + 1, rfl, by omega, G11, G8, HE, D3, D2, D⟩
                                    case measure => simp [intOf]; omega
                                  · have hin : hasP S q = true := hwh.symm.trans hs2
                                    refine wp_region_late (S := fun w' => w'.heap[g8]? = some (.cells #[.bool (S.absent), .slice ai S.ints.length ci, .bool (S.co), .slice az S.strs.length cz] 26 (0, 0)) ∧ w'.heap[g11]? = some (.cells #[.bool (Y9.absent), .slice ai' Y9.ints.length ci', .bool (Y9.co), .slice az' Y9.strs.length cz'] 26 (0, 0)) ∧ w'.heap[g19]? = some (.cells #[.int .i64 (p.1), .int .i64 (p.2.1), .string p.2.2] 48 (0, 0))) (late := fun j => [].contains j) (by kernel_rfl) ?_
                                    have kb : Below v20.heap.size v20 v20.drew := (Below.refl _ v20).drew
                                    replace D := grown_below D kb
                                    replace HE := HE.on kb
                                    replace D2 := grown_below D2 kb
                                    replace G8 := heap_on G8 kb
                                    replace G11 := heap_on G11 kb
                                    replace D3 := grown_below D3 kb
                                    replace G19 := heap_on G19 kb
                                    clear kb
                                    generalize v20.drew = v21 at D HE D2 G8 G11 D3 G19 ⊢
                                    refine wpAnyL_load (i := 0) (oi := ⟨_, _, _, _, _, _⟩) (v := .agg #[.bool (Y9.absent), .slice ai' Y9.ints.length ci', .bool (Y9.co), .slice az' Y9.strs.length cz']) rfl (by kernel_rfl) (by kernel_rfl) (by kernel_rfl) (by kernel_rfl) (fun _ _ _ h => h) (yl_set (by rfl) _ rfl _ 0 rfl _ _ _ _ (fun _ h => ⟨cell_heap h.2.1 0, cell_heap h.2.1 1, cell_heap h.2.1 2, cell_heap h.2.1 3⟩)) ⟨G8, G11, G19⟩ ?_
                                    simp only [Act.put, lzA, lzB, lzC]
                                    refine wpAnyL_load (i := 1) (oi := ⟨_, _, _, _, _, _⟩) (v := vVal p) rfl (by kernel_rfl) (by kernel_rfl) (by kernel_rfl) (by kernel_rfl) (fun _ _ _ h => h) (yl_val (by rfl) _ rfl _ 0 rfl _ _ _ (fun _ h => ⟨cell_heap h.2.2 0, cell_heap h.2.2 1, cell_heap h.2.2 2⟩)) ⟨G8, G11, G19⟩ ?_
                                    simp only [Act.put, lzA, lzB, lzC]
                                    refine wpAnyL_all (rs := [2]) (by kernel_rfl) (by simp) ?_
                                    intro j hj
                                    have hj := List.mem_singleton.1 hj
                                    subst hj
                                    refine ot_call (o := ⟨_, _, _, _, _, _⟩) rfl (by rfl) 23 _ _ rfl #[.agg #[.bool (Y9.absent), .slice ai' Y9.ints.length ci', .bool (Y9.co), .slice az' Y9.strs.length cz'], vVal p] rfl (run_call Tryz.func23 (by kernel_rfl) (by kernel_rfl)) ?_
                                    refine (refHas_any _ Y9 p.1 p.2.1 p.2.2 _ (show SetAt _ (SC.val ⟨Y9.absent, ai', Y9.ints.length, ci', Y9.co, az', Y9.strs.length, cz'⟩) Y9 from ⟨_, _, rfl, hI9.on (below_none D2), hT9.on (below_none D2)⟩) hsp).mono ?_
                                    rintro r v22 (⟨rfl, kb⟩)
                                    replace D := grown_below D kb
                                    replace HE := HE.on kb
                                    replace D2 := grown_below D2 kb
                                    replace G8 := heap_on G8 kb
                                    replace G11 := heap_on G11 kb
                                    replace D3 := grown_below D3 kb
                                    replace G19 := heap_on G19 kb
                                    clear kb
                                    refine Or.inl ⟨.bool true, ret_bool hh, ⟨fun _ _ => ⟨G8, G11, G19⟩, ?_⟩⟩
                                    simp only [Act.put, lzA, lzB, lzC]
                                    refine wpAnyL_pure (i := 3) (oi := ⟨_, _, _, _, _, _⟩) (v := .bool true) rfl (by kernel_rfl) (by kernel_rfl) (by kernel_rfl) (fun _ _ _ h => h) (yl_move (by rfl) _ rfl _ rfl) ?_
                                    simp only [Act.put, lzA, lzB, lzC]
                                    refine wpAnyL_load (i := 4) (oi := ⟨_, _, _, _, _, _⟩) (v := .agg #[.bool (S.absent), .slice ai S.ints.length ci, .bool (S.co), .slice az S.strs.length cz]) rfl (by kernel_rfl) (by kernel_rfl) (by kernel_rfl) (by kernel_rfl) (fun _ _ _ h => h) (yl_set (by rfl) _ rfl _ 0 rfl _ _ _ _ (fun _ h => ⟨cell_heap h.1 0, cell_heap h.1 1, cell_heap h.1 2, cell_heap h.1 3⟩)) ⟨G8, G11, G19⟩ ?_
                                    simp only [Act.put, lzA, lzB, lzC]
                                    refine wpAnyL_load (i := 5) (oi := ⟨_, _, _, _, _, _⟩) (v := vVal p) rfl (by kernel_rfl) (by kernel_rfl) (by kernel_rfl) (by kernel_rfl) (fun _ _ _ h => h) (yl_val (by rfl) _ rfl _ 0 rfl _ _ _ (fun _ h => ⟨cell_heap h.2.2 0, cell_heap h.2.2 1, cell_heap h.2.2 2⟩)) ⟨G8, G11, G19⟩ ?_
                                    simp only [Act.put, lzA, lzB, lzC]
                                    refine wpAnyL_load (i := 7) (oi := ⟨_, _, _, _, _, _⟩) (v := .agg #[.bool (Y9.absent), .slice ai' Y9.ints.length ci', .bool (Y9.co), .slice az' Y9.strs.length cz']) rfl (by kernel_rfl) (by kernel_rfl) (by kernel_rfl) (by kernel_rfl) (fun _ _ _ h => h) (yl_set (by rfl) _ rfl _ 0 rfl _ _ _ _ (fun _ h => ⟨cell_heap h.2.1 0, cell_heap h.2.1 1, cell_heap h.2.1 2, cell_heap h.2.1 3⟩)) ⟨G8, G11, G19⟩ ?_
                                    simp only [Act.put, lzA, lzB, lzC]
                                    refine wpAnyL_load (i := 8) (oi := ⟨_, _, _, _, _, _⟩) (v := .agg #[.bool (S.absent), .slice ai S.ints.length ci, .bool (S.co), .slice az S.strs.length cz]) rfl (by kernel_rfl) (by kernel_rfl) (by kernel_rfl) (by kernel_rfl) (fun _ _ _ h => h) (yl_set (by rfl) _ rfl _ 0 rfl _ _ _ _ (fun _ h => ⟨cell_heap h.1 0, cell_heap h.1 1, cell_heap h.1 2, cell_heap h.1 3⟩)) ⟨G8, G11, G19⟩ ?_
                                    simp only [Act.put, lzA, lzB, lzC]
                                    refine wpAnyL_all (rs := [6]) (by kernel_rfl) (by simp) ?_
                                    intro j hj
                                    have hj := List.mem_singleton.1 hj
                                    subst hj
                                    refine ot_call (o := ⟨_, _, _, _, _, _⟩) rfl (by rfl) 23 _ _ rfl #[.agg #[.bool (S.absent), .slice ai S.ints.length ci, .bool (S.co), .slice az S.strs.length cz], vVal p] rfl (run_call Tryz.func23 (by kernel_rfl) (by kernel_rfl)) ?_
                                    refine (refHas_any _ S p.1 p.2.1 p.2.2 _ (show SetAt _ (SC.val ⟨S.absent, ai, S.ints.length, ci, S.co, az, S.strs.length, cz⟩) S from ⟨_, _, rfl, hI.on (below_none D), hT.on (below_none D)⟩) hsp).mono ?_
                                    rintro r v23 (⟨rfl, kb⟩)
                                    replace D := grown_below D kb
                                    replace HE := HE.on kb
                                    replace D2 := grown_below D2 kb
                                    replace G8 := heap_on G8 kb
                                    replace G11 := heap_on G11 kb
                                    replace D3 := grown_below D3 kb
                                    replace G19 := heap_on G19 kb
                                    clear kb
                                    refine Or.inl ⟨.bool true, ret_bool hs2, ⟨fun _ _ => ⟨G8, G11, G19⟩, ?_⟩⟩
                                    simp only [Act.put, lzA, lzB, lzC]
                                    refine wpAnyL_all (rs := [9]) (by kernel_rfl) (by simp) ?_
                                    intro j hj
                                    have hj := List.mem_singleton.1 hj
                                    subst hj
                                    refine ot_call (o := ⟨_, _, _, _, _, _⟩) rfl (by rfl) 24 _ _ rfl #[.agg #[.bool (Y9.absent), .slice ai' Y9.ints.length ci', .bool (Y9.co), .slice az' Y9.strs.length cz'], .agg #[.bool (S.absent), .slice ai S.ints.length ci, .bool (S.co), .slice az S.strs.length cz]] rfl (run_call Tryz.func24 (by kernel_rfl) (by kernel_rfl)) ?_
                                    refine (in_any _ _ Y9 S q _ HE (show SetAt _ (SC.val ⟨Y9.absent, ai', Y9.ints.length, ci', Y9.co, az', Y9.strs.length, cz'⟩) Y9 from ⟨_, _, rfl, hI9.on (below_none D2), hT9.on (below_none D2)⟩) (show SetAt _ (SC.val ⟨S.absent, ai, S.ints.length, ci, S.co, az, S.strs.length, cz⟩) S from ⟨_, _, rfl, hI.on (below_none D), hT.on (below_none D)⟩) (fun _ => hfk) hfS hq hqm).mono ?_
                                    rintro r v24 (⟨rfl, kb⟩)
                                    replace D := grown_below D kb
                                    replace HE := HE.on kb
                                    replace D2 := grown_below D2 kb
                                    replace G8 := heap_on G8 kb
                                    replace G11 := heap_on G11 kb
                                    replace D3 := grown_below D3 kb
                                    replace G19 := heap_on G19 kb
                                    clear kb
                                    refine Or.inl ⟨.bool true, ret_bool hin, ⟨fun _ _ => ⟨G8, G11, G19⟩, ?_⟩⟩
                                    simp only [Act.put, lzA, lzB, lzC]
                                    refine wpAnyL_pure (i := 10) (oi := ⟨_, _, _, _, _, _⟩) (v := .bool false) rfl (by kernel_rfl) (by kernel_rfl) (by kernel_rfl) (fun _ _ _ h => h) (yq_neqB (by rfl) _ _ _ rfl true true rfl rfl) ?_
                                    simp only [Act.put, lzA, lzB, lzC]
                                    refine wpAnyL_pure (i := 11) (oi := ⟨_, _, _, _, _, _⟩) (v := .bool false) rfl (by kernel_rfl) (by kernel_rfl) (by kernel_rfl) (fun _ _ _ h => h) (yl_pickT (by rfl) _ _ _ rfl rfl _ rfl) ?_
                                    simp only [Act.put, lzA, lzB, lzC]
                                    refine wpAnyL_done (by kernel_rfl) ?_ _
                                    refine hK25 _ _ ?_
                                    clear hK25 K25
                                    refine wp_cond_false rfl ?_
                                    refine wp_skip ?_
                                    refine hK23 _ _ ?_
                                    clear hK23 K23
                                    refine wp_region_lit ?_
                                    refine wl_yield (o := ⟨_, _, _, _, _, _⟩) (.int .i64 (n + 1 : Nat)) (yt_addI (by rfl) _ _ _ rfl ((n : Nat) : Int) 1 ((n + 1 : Nat) : Int) rfl rfl (by omega) (by omega) (by omega)) ?_
                                    simp only [Act.put, lzA, lzB, lzC]
                                    refine wl_yield (o := ⟨_, _, _, _, _, _⟩) (.int .i64 (n + 1 : Nat)) (yl_move (by rfl) _ rfl _ rfl) ?_
                                    simp only [Act.put, lzA, lzB, lzC]
                                    refine wpList_nil ?_
                                    show _ ∧ _
                                    go_roundw
                                    case rel => exact ⟨n + 1, rfl, by omega, G11, G8, HE, D3, D2, D⟩
                                    case measure => simp [intOf]; omega
                              · obtain rfl : n = P9.length := by omega
                                refine wp_seq_k (fun K21 hK21 => ?_)
                                refine wp_region_lit ?_
                                refine wl_yield (o := ⟨_, _, _, _, _, _⟩) (.bool false) (yt_lssI (by rfl) _ _ _ rfl ((P9.length : Nat) : Int) ((P9.length : Nat) : Int) false rfl rfl (decide_eq_false (by omega))) ?_
                                simp only [Act.put, lzA, lzB, lzC]
                                refine wpList_nil ?_
                                refine hK21 _ _ ?_
                                clear hK21 K21
                                refine wp_seq_k (fun K22 hK22 => ?_)
                                refine wp_cond_false rfl ?_
                                refine wp_exit ?_
                                refine hK18 _ _ ?_
                                clear hK22 K22 hK18 K18
                                refine wp_region_lit ?_
                                refine wl_yield (o := ⟨_, _, _, _, _, _⟩) (.int .i64 (j + 1 : Nat)) (yt_addI (by rfl) _ _ _ rfl ((j : Nat) : Int) 1 ((j + 1 : Nat) : Int) rfl rfl (by omega) (by omega) (by omega)) ?_
                                simp only [Act.put, lzA, lzB, lzC]
                                refine wl_yield (o := ⟨_, _, _, _, _, _⟩) (.int .i64 (j + 1 : Nat)) (yl_move (by rfl) _ rfl _ rfl) ?_
                                simp only [Act.put, lzA, lzB, lzC]
                                refine wpList_nil ?_
                                show _ ∧ _
                                go_roundw
                                case rel => exact ⟨j + 1, rfl, by omega, G8, HE, D2, D⟩
                                case measure => simp [intOf]; omega
                        · obtain rfl : j = (cutL l).length := by omega
                          refine wp_seq_k (fun K16 hK16 => ?_)
                          refine wp_region_lit ?_
                          refine wl_yield (o := ⟨_, _, _, _, _, _⟩) (.bool false) (yt_lssI (by rfl) _ _ _ rfl (((cutL l).length : Nat) : Int) (((cutL l).length : Nat) : Int) false rfl rfl (decide_eq_false (by omega))) ?_
                          simp only [Act.put, lzA, lzB, lzC]
                          refine wpList_nil ?_
                          refine hK16 _ _ ?_
                          clear hK16 K16
                          refine wp_seq_k (fun K17 hK17 => ?_)
                          refine wp_cond_false rfl ?_
                          refine wp_exit ?_
                          refine hK11 _ _ ?_
                          clear hK17 K17 hK11 K11
                          refine wp_region_lit ?_
                          refine wl_yield (o := ⟨_, _, _, _, _, _⟩) (.int .i64 (k + 1 : Nat)) (yt_addI (by rfl) _ _ _ rfl ((k : Nat) : Int) 1 ((k + 1 : Nat) : Int) rfl rfl (by omega) (by omega) (by omega)) ?_
                          simp only [Act.put, lzA, lzB, lzC]
                          refine wl_yield (o := ⟨_, _, _, _, _, _⟩) (.int .i64 (k + 1 : Nat)) (yl_move (by rfl) _ rfl _ rfl) ?_
                          simp only [Act.put, lzA, lzB, lzC]
                          refine wpList_nil ?_
                          show _ ∧ _
                          go_roundw
                          case rel => exact ⟨k + 1, rfl, by omega, HE, D2, D⟩
                          case measure => simp [intOf]; omega
                · obtain rfl : k = l.length := by omega
                  refine wp_seq_k (fun K9 hK9 => ?_)
                  refine wp_region_lit ?_
                  refine wl_yield (o := ⟨_, _, _, _, _, _⟩) (.bool false) (yt_lssI (by rfl) _ _ _ rfl ((l.length : Nat) : Int) ((l.length : Nat) : Int) false rfl rfl (decide_eq_false (by omega))) ?_
                  simp only [Act.put, lzA, lzB, lzC]
                  refine wpList_nil ?_
                  refine hK9 _ _ ?_
                  clear hK9 K9
                  refine wp_seq_k (fun K10 hK10 => ?_)
                  refine wp_cond_false rfl ?_
                  refine wp_exit ?_
                  refine hK7 _ _ ?_
                  clear hK10 K10 hK7 K7
                  refine wp_seq_k (fun K11 hK11 => ?_)
                  refine wp_region_lit ?_
                  refine wl_yield (o := ⟨_, _, _, _, _, _⟩) (.bool true) (yl_assign (by rfl) _ rfl _ rfl) ?_
                  simp only [Act.put, lzA, lzB, lzC]
                  refine wpList_nil ?_
                  refine hK11 _ _ ?_
                  clear hK11 K11
                  refine wp_ret ?_
                  try simp only [Exit.inBlock, Exit.then]
                  go_ret
                  exact ⟨rfl, below_none D⟩
end Go.Proofs.YtjbgjdjmejhejaaGreatDoor
namespace Go.Proofs.YtjbgjdjmejhejaaGreatDoor
open Go.ChangeShapes Go.WideShapes Go.ChangeAt Go.WideMaps Go.WideElems Go.RowKit Go.Joins
section
variable {H : Type} {enc : TypeId × Value → H} {W : World} {base : Nat} {sp : Nat → Bool} {held : Bool}
end
section
variable {H : Type} {enc : TypeId × Value → H} {W : World}
end
end Go.Proofs.YtjbgjdjmejhejaaGreatDoor
namespace Go.Proofs.YtjbgjdjmejhejaaGreatDoor
open Go.Deep Go.ChangeShapes Go.WideShapes Go.ChangeAt Go.WideMaps Go.WideElems Go.RowKit Go.Joins
section
variable {H : Type} {enc : TypeId × Value → H} {W : World}
end
end Go.Proofs.YtjbgjdjmejhejaaGreatDoor
namespace Go.Proofs.YtjbgjdjmejhejaaGreatDoor
open Go.ChangeShapes Go.WideShapes Go.ChangeAt Go.WideMaps Go.WideElems Go.RowKit Go.Joins
theorem own : ownKnob Tryz.prog.godebug = none := by kernel_rfl
theorem gPowType : (Tryz.prog.globals[1]?).map (·.type) = some 275 := by kernel_rfl
theorem cellsPow : Tryz.prog.cellsOf 275 = 20 := by kernel_rfl
theorem cellsU64 : Tryz.prog.cellsOf 164 = 1 := by kernel_rfl
abbrev laid5 : List (String × DataW Unit) := [("math/bits.deBruijn32tab", Rows.laid_math_bits_deBruijn32tab), ("math/bits.deBruijn64tab", Rows.laid_math_bits_deBruijn64tab), ("internal/strconv.uint64pow10", Rows.laid_internal_strconv_uint64pow10)]
theorem env_of_laid {W : World} (h : laidMetH Tryz.prog laid5 W) : Env W := by
  rw [MakeChecks.laidMetH_plain _ _ _ (by kernel_rfl)] at h
  have hp : Lib.TabIs Tryz.prog W "internal/strconv.uint64pow10" .u64 Lib.pow10Tab := Lib.tabIs_of_head gPow gPowType Tryz.underlying275 Tryz.underlying164 cellsU64 cellsPow (show laidMet Tryz.prog (("internal/strconv.uint64pow10", Lib.tabData .u64 Lib.pow10Tab) :: _) W from h.tail.tail)
  have big : 2 ≤ W.heap.size := by
    rcases Nat.lt_or_ge 1 W.heap.size with h' | h'
    · exact h'
    · exfalso
      have := hp.cell gPow 0 (by decide); simp [World.cell?, Array.getElem?_eq_none h'] at this
  exact ⟨big, hp⟩
theorem door_met (os : Os) (args : Array Value) : laidMetH Tryz.prog laid5 ((World.doorLaid Tryz.prog 400 os).forCall (fun _ _ => 0) ⟨#[], args, []⟩).memory :=
  laidMetH_of_parts3 (fuel := 8) (laidMet_of_run' 8 (by kernel_rfl) (by kernel_rfl)) (by kernel_rfl) (by kernel_rfl)
end Go.Proofs.YtjbgjdjmejhejaaGreatDoor
