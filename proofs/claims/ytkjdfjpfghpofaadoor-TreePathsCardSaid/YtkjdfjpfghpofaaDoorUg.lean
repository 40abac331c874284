/- The program's ways: the closure that walks down to an end. -/
import Derived.Test.YtkjdfjpfghpofaaDoorUf
namespace Go.Proofs.YtkjdfjpfghpofaaDoor
open Go.RowKit

set_option maxRecDepth 100000 in
set_option maxHeartbeats 4000000 in
theorem walkEnds_c (mm mb k : Nat) : ∀ (p z : Tree.Part) (n e d c f : Nat) (x : World), p.b - p.a ≤ k → p.a ≤ n → n < p.b → (p.b : Int) ≤ 9223372036854775807 →
    WalkI (.func (Fn.func 61) #[] #[.pointer (some ⟨mb, 0, none⟩)]) n e d c f x → n + 1 = mm → x.cell? ⟨mb, 0, none⟩ = some (.int .i64 mm) → mb < x.heap.size → mb ≠ d → WayB x d z (.slice none 0 0) →
    Calls Tryd.prog 67 #[partV p.a p.b p.first, .pointer (some ⟨e, 0, none⟩), .pointer (some ⟨d, 0, none⟩), .pointer (some ⟨c, 0, none⟩), .pointer (some ⟨f, 0, none⟩)] x fun en x' => en = .returned (.tuple #[]) ∧ ButW d x x' ∧
      ∃ sl, WayB x' d (Tree.down (Tree.endsAt mm) n p).1 sl ∧ x'.ownsRow x.heap.size 66 3 sl (Tree.down (Tree.endsAt mm) n p).2.length ((Tree.down (Tree.endsAt mm) n p).2.flatMap partC) := by
  induction k with
  | zero => intro p z n e d c f x hk h1 h2; omega
  | succ k ih =>
    intro p z n e d c f x hk h1 h2 hmax hW hmm hmc hml hmd hB
    have HMB : Hid (∀ w', ButW d x w' → w'.cell? ⟨mb, 0, none⟩ = some (.int .i64 mm) ∧ mb < w'.heap.size) := Lib.hid (fun w' h => ⟨(h.cell (p := ⟨mb, 0, none⟩) hml hmd).trans hmc, Nat.lt_of_lt_of_le hml h.size⟩)
    obtain ⟨a, b, fs⟩ := p
    simp only at hk h1 h2 hmax ⊢
    have hdl := hB.lt
    have CE := Lib.hid (fun w' (h : ButW d x w') => endsAt_c a b mm mb fs w' (HMB.out w' h).1 (HMB.out w' h).2)
    have hM1 : Hid (MidW x d ⟨a, b, fs⟩ z (x.alloc (.cells #[.int .i64 a, .int .i64 b, .bool fs] 66))) :=
      Lib.hid ⟨heap_alloc_new x _, ButW.of ((Below.refl _ x).alloc (Nat.le_refl _) _), hB.past ((Below.refl _ x).alloc (Nat.le_refl _) _), hdl⟩
    have c0 := (hW.but hM1.out.2.1).he
    have HW := Lib.hid hW
    have HMD := Lib.hid (And.intro hmm hmd)
    clear hW hB hmc hml hmd
    by_cases hend : Tree.endsAt mm ⟨a, b, fs⟩ = true
    · rw [Tree.down_end _ _ _ hend]
      rw [hend] at CE
      clear hend hmm
      go_enter Tryd.func67, Tryd.ntmps67
      go_wp2_with fail
      refine (CE.out _ hM1.out.2.1).mono ?_; rintro en x2 ⟨rfl, hb⟩
      have hM2 := Lib.hid (hM1.out.past hb)
      obtain ⟨p0, p1, p2⟩ := hM2.out.1.cells
      obtain ⟨q0, q1, q2, q3⟩ := hM2.out.2.2.1.cells
      have f0 := hM2.out.2.2.1.free 0
      have f1 := hM2.out.2.2.1.free 1
      have f2 := hM2.out.2.2.1.free 2
      clear hb c0 hM1
      go_wp2_with fail
      exact bodyPost_ret (results_none Tryd.results67 _ _ _) rfl ⟨rfl, ((hM2.out.2.1.set 0 _).set 1 _).set 2 _, _, hM2.out.2.2.1.setEnd a b fs, rfl, .inl ⟨rfl, rfl⟩⟩
    · have hend' : (Tree.endsAt mm) ⟨a, b, fs⟩ = false := by simpa using hend
      rw [hend'] at CE
      have hab : a + 2 ≤ b := by
        have : ¬ b = mm := by simpa [Tree.endsAt] using hend
        omega
      have g1 := Tree.half_pos (b - a)
      have g2 := Tree.half_lt (b - a) (by omega)
      have CH := Lib.hid (fun w' => half_c (b - a) (by omega) w')
      have e0 : ((b - a : Nat) : Int) = (b : Int) - (a : Int) := by omega
      have HL := Lib.hid (Tree.down_left (Tree.endsAt mm) n ⟨a, b, fs⟩ hend' hab)
      have HR := Lib.hid (Tree.down_right (Tree.endsAt mm) n ⟨a, b, fs⟩ hend' hab)
      simp only at HL HR
      obtain ⟨h, eh⟩ : ∃ h, Tree.half (b - a) = h := ⟨_, rfl⟩
      rw [eh] at g1 g2 CH HL HR
      rw [e0] at CH
      obtain ⟨m, em⟩ : ∃ m, a + h = m := ⟨_, rfl⟩
      rw [em] at HL HR
      have z1 : IntKind.i64.wrap ((b : Int) - (a : Int)) = (b : Int) - (a : Int) := wrap64 _ (by omega) (by omega)
      have z2 : IntKind.i64.wrap ((a : Int) + (h : Int)) = (a : Int) + (h : Int) := wrap64 _ (by omega) (by omega)
      have e1 : (a : Int) + (h : Int) = (m : Int) := by omega
      have z3 : IntKind.i64.wrap (m : Int) = (m : Int) := wrap64 _ (by omega) (by omega)
      have HN := Lib.hid (And.intro (And.intro hk hmax) (And.intro (And.intro h1 h2) (And.intro hab (And.intro g1 (And.intro g2 em)))))
      obtain ⟨r, hr⟩ : ∃ r, Tree.down (Tree.endsAt mm) n ⟨a, b, fs⟩ = r := ⟨_, rfl⟩
      rw [hr] at HL HR
      rw [hr]
      obtain ⟨i0, hj, hz0, hz1, hz2⟩ := info_parts infoPart
      clear hmm hend hend' eh e0 em hk hmax h1 h2 hab g1 g2 hr
      go_enter Tryd.func67, Tryd.ntmps67
      go_wp2_with fail
      refine (CE.out _ hM1.out.2.1).mono ?_; rintro en x2 ⟨rfl, hb⟩
      have hM2 := Lib.hid (hM1.out.past hb)
      clear hb c0 hM1
      go_wp2_with fail
      go_cut [6] (fun v wx => v = .int .i64 (m : Int) ∧ Hid (MidW x d ⟨a, b, fs⟩ z wx))
      case first =>
        obtain ⟨p0, p1, p2⟩ := hM2.out.1.cells
        have hD := Lib.hid hM2.out.drew
        go_region_held3 (fun w' => w'.cell? ⟨x.heap.size, 0, none⟩ = some (.int .i64 (a : Int)) ∧ w'.cell? ⟨x.heap.size, 1, none⟩ = some (.int .i64 (b : Int))) (first | exact ⟨p0, p1⟩ | simp [*, go_sem])
          ((go_at_call 39; refine (CH.out _).mono ?_; rintro en x3 ⟨rfl, rfl⟩))
        all_goals
          go_wp2
          go_meet
          case rel => exact ⟨by first | rfl | rw [z3], hD⟩
      case rest =>
        obtain ⟨rfl, hM⟩ := hcut
        obtain ⟨p0, p1, p2⟩ := hM.out.1.cells
        have hlt := hM.out.1.lt
        have n1 : ¬ x.heap.size = wc.heap.size := by omega
        have n2 : ¬ wc.heap.size = x.heap.size := by omega
        have n3 : ¬ x.heap.size = wc.heap.size + 1 := by omega
        have n4 : ¬ wc.heap.size + 1 = x.heap.size := by omega
        go_wp2_with fail
        go_cut [7, 8] (fun u v wy => ∃ g h, u = .pointer (some ⟨g, 0, none⟩) ∧ v = .pointer (some ⟨h, 0, none⟩) ∧ Hid (MidW x d ⟨a, b, fs⟩ z wy ∧ PartB wy g ⟨a, m, true⟩ ∧ PartB wy h ⟨m, b, false⟩ ∧ x.heap.size < g ∧ x.heap.size < h))
        case first =>
          go_region
          all_goals
            go_wp2
            go_meet
            case rel => first
              | exact ⟨_, _, rfl, rfl, Lib.hid (hM.out.two ⟨a, m, true⟩ ⟨m, b, false⟩)⟩
              | (obtain ⟨t1, t2, t3, t4, t5⟩ := hM.out.two ⟨m, b, false⟩ ⟨a, m, true⟩; exact ⟨_, _, rfl, rfl, Lib.hid ⟨t1, t3, t2, t5, t4⟩⟩)
        case rest =>
          clear hM p0 p1 p2 hlt n1 n2 n3 n4 hM2
          obtain ⟨v1, hv1⟩ : ∃ v, v = wc := ⟨_, rfl⟩
          obtain ⟨g, q, rfl, rfl, hM⟩ := hcut
          have hIW := HW.out.but hM.out.1.2.1
          have hcc := hIW.hc
          have hff := hIW.hf
          obtain ⟨p0, p1, p2⟩ := hM.out.2.1.cells
          obtain ⟨q0, q1, q2⟩ := hM.out.2.2.1.cells
          have HM3 : Hid (d < wc.heap.size) := Lib.hid hM.out.1.2.2.1.lt
          clear hv1
          by_cases hnm : n < m
          · have hnm2 : (n : Int) < (m : Int) := by omega
            have CI := Lib.hid (ih ⟨a, m, true⟩ z n e d c f wc (by have := HN.out; simp only; omega) (by have := HN.out; simp only; omega) (by have := HN.out; simp only; omega) (by have := HN.out; simp only; omega) hIW HMD.out.1 (HMB.out _ hM.out.1.2.1).1 (HMB.out _ hM.out.1.2.1).2 HMD.out.2 hM.out.1.2.2.1)
            have hlen := Tree.down_short (Tree.endsAt mm) n ⟨a, m, true⟩ (by have := HN.out; simp only; omega)
            have hr := HL.out hnm
            obtain ⟨⟨E, R⟩, hER⟩ : ∃ y, Tree.down (Tree.endsAt mm) n ⟨a, m, true⟩ = y := ⟨_, rfl⟩
            rw [hER] at CI hlen hr
            simp only at CI hlen hr
            have HX := Lib.hid (And.intro hr hlen)
            clear hER hlen hr hIW hnm
            go_wp2_with (first
              | (go_at_call 67; refine (CI.out).mono ?_; rintro en x4 ⟨rfl, hBut, sl, hWay, hOwn⟩; have HB := Lib.hid hBut; have HY := Lib.hid hWay; have HO := Lib.hid hOwn; obtain ⟨d0, d1, d2, d3⟩ := hWay.cells; obtain ⟨o0, o1, o2⟩ := PartB.cells (hM.out.2.2.1.keep (hBut.block _ (PartB.lt hM.out.2.2.1) (by have := hM.out.2.2.2; have := hM.out.1.2.2.2; omega))); have nd : ¬ d = x4.heap.size := (by have := hWay.lt; omega); have nd2 : ¬ x4.heap.size = d := (by omega); clear hBut hWay hOwn p0 p1 p2 q0 q1 q2 hcc hff)
              | (at_builtin; refine wpList_append_lies _ rfl _ _ 67 rfl wc.heap.size 66 i0 _ 3 24 Tryd.underlying67 hj hz0 hz1 hz2 rfl (by decide) sl R.length (R.flatMap partC) rfl (HO.out.alloc _) _ 1 1 [.int .i64 m, .int .i64 b, .bool false] rfl rfl (fun j u hu => news_three _ _ _ _ _ _ (by rfl) j u hu) (by simp [Value.oneCell']) (by decide) (by have := HX.out.2; unfold maxLen; omega) (by have := HX.out.2; omega) (by have := HB.out.size; simp; omega) _ rfl ?_; intro g5 cap5 w5 hown hgrow hlie hlt5; have HO5 := Lib.hid hown; have HG5 := Lib.hid hgrow; have hY5 := (HY.out.past ((Below.refl _ x4).alloc (Nat.le_refl _) _)).keep (hgrow.block d (by have := HY.out.lt; simp; omega) (by intro e; have := HO.out.lt d e.symm; have := HM3.out; omega)); obtain ⟨d0, d1, d2, d3⟩ := hY5.cells; have dz := hY5.free 3; have HY5 := Lib.hid hY5; clear hown hgrow hlie hlt5 hY5))
            have hb5 : ButW d x w5 := ButW.grown ((hM.out.1.2.1.trans HB.out).trans (ButW.of ((Below.refl _ x4).alloc (Nat.le_refl _) _))) HG5.out (fun q hq => by have := (HO.out.lt q hq).1; have := hM.out.1.2.1.size; omega)
            have hr := HX.out.1
            subst hr
            go_end0
            refine ⟨rfl, hb5.set 3 _, _, HY5.out.setRow _, ?_⟩
            rw [List.length_append, List.flatMap_append]
            exact own_mono (ownsRow_setCell_below HO5.out (a := ⟨d, 3, none⟩) HM3.out _) hM.out.1.2.1.size
          · have hnm2 : ¬ (n : Int) < (m : Int) := by omega
            have CI := Lib.hid (ih ⟨m, b, false⟩ z n e d c f wc (by have := HN.out; simp only; omega) (by have := HN.out; simp only; omega) (by have := HN.out; simp only; omega) (by have := HN.out; simp only; omega) hIW HMD.out.1 (HMB.out _ hM.out.1.2.1).1 (HMB.out _ hM.out.1.2.1).2 HMD.out.2 hM.out.1.2.2.1)
            have hlen := Tree.down_short (Tree.endsAt mm) n ⟨m, b, false⟩ (by have := HN.out; simp only; omega)
            have hr := HR.out hnm
            obtain ⟨⟨E, R⟩, hER⟩ : ∃ y, Tree.down (Tree.endsAt mm) n ⟨m, b, false⟩ = y := ⟨_, rfl⟩
            rw [hER] at CI hlen hr
            simp only at CI hlen hr
            have HX := Lib.hid (And.intro hr hlen)
            clear hER hlen hr hIW hnm
            go_wp2_with (first
              | (go_at_call 67; refine (CI.out).mono ?_; rintro en x4 ⟨rfl, hBut, sl, hWay, hOwn⟩; have HB := Lib.hid hBut; have HY := Lib.hid hWay; have HO := Lib.hid hOwn; obtain ⟨d0, d1, d2, d3⟩ := hWay.cells; obtain ⟨o0, o1, o2⟩ := PartB.cells (hM.out.2.1.keep (hBut.block _ (PartB.lt hM.out.2.1) (by have := hM.out.2.2.2; have := hM.out.1.2.2.2; omega))); have nd : ¬ d = x4.heap.size := (by have := hWay.lt; omega); have nd2 : ¬ x4.heap.size = d := (by omega); clear hBut hWay hOwn p0 p1 p2 q0 q1 q2 hcc hff)
              | (at_builtin; refine wpList_append_lies _ rfl _ _ 67 rfl wc.heap.size 66 i0 _ 3 24 Tryd.underlying67 hj hz0 hz1 hz2 rfl (by decide) sl R.length (R.flatMap partC) rfl (HO.out.alloc _) _ 1 1 [.int .i64 a, .int .i64 m, .bool true] rfl rfl (fun j u hu => news_three _ _ _ _ _ _ (by rfl) j u hu) (by simp [Value.oneCell']) (by decide) (by have := HX.out.2; unfold maxLen; omega) (by have := HX.out.2; omega) (by have := HB.out.size; simp; omega) _ rfl ?_; intro g5 cap5 w5 hown hgrow hlie hlt5; have HO5 := Lib.hid hown; have HG5 := Lib.hid hgrow; have hY5 := (HY.out.past ((Below.refl _ x4).alloc (Nat.le_refl _) _)).keep (hgrow.block d (by have := HY.out.lt; simp; omega) (by intro e; have := HO.out.lt d e.symm; have := HM3.out; omega)); obtain ⟨d0, d1, d2, d3⟩ := hY5.cells; have dz := hY5.free 3; have HY5 := Lib.hid hY5; clear hown hgrow hlie hlt5 hY5))
            have hb5 : ButW d x w5 := ButW.grown ((hM.out.1.2.1.trans HB.out).trans (ButW.of ((Below.refl _ x4).alloc (Nat.le_refl _) _))) HG5.out (fun q hq => by have := (HO.out.lt q hq).1; have := hM.out.1.2.1.size; omega)
            have hr := HX.out.1
            subst hr
            go_end0
            refine ⟨rfl, hb5.set 3 _, _, HY5.out.setRow _, ?_⟩
            rw [List.length_append, List.flatMap_append]
            exact own_mono (ownsRow_setCell_below HO5.out (a := ⟨d, 3, none⟩) HM3.out _) hM.out.1.2.1.size
end Go.Proofs.YtkjdfjpfghpofaaDoor
