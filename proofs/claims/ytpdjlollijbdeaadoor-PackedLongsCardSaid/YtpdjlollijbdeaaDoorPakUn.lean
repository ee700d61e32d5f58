/- Unpacking runs. -/
import Derived.Test.YtpdjlollijbdeaaDoorPakPk
namespace Go.Proofs.YtpdjlollijbdeaaDoor
open Go.RowKit
set_option linter.unusedVariables false
set_option maxRecDepth 10000

def CellsRet (w : World) (E : List Cl × Int) (e : Ending) (w' : World) : Prop :=
  ∃ a' n' c', e = .returned (.tuple #[.slice a' n' c', .int .i64 E.2]) ∧ Own w' w.heap.size 30 a' n' c' 16 (cellsV E.1) ∧ Kept [] w w'

set_option maxHeartbeats 4000000 in
theorem Unpack5_any (a : Option Addr) (n c : Nat) (l : List Ru) (hB : ∀ r ∈ l, RuB r) (w : World) (ht : Tabs w) (hr : Rd w a n 4 (runsV l)) (hn : n ≤ 1000000) :
    Calls Tryd.prog 36 #[.slice a n c] w (CellsRet w (unpackR l)) := by
  have hl := hr.runs
  have hH := hide hr
  have hTt := hide (total_any a n c l hB w ht hr hn)
  have hC := hide (fun (x : W3) hb w1 (hk : Kept [] w w1) => Cell_any x hb w1 (ht.kept hk))
  have hBB := hide hB
  have hP : Hid (unpackR l = if (totI l).2 = true then (expand l, 0) else ([], 12)) := hide rfl
  generalize unpackR l = R at *
  clear hr ht hB
  cases hok : (totI l).2
  · have hR : R = ([], 12) := by rw [hP.out, hok]; rfl
    subst hR
    rw [totI_false hok] at hTt
    simp only at hTt
    go_enter Tryd.func36, Tryd.ntmps36
    go_wp2_with fail
    refine hTt.out.mono ?_
    rintro e w1 ⟨rfl, hk1⟩
    go_wp2_with fail
    go_ret2
    exact ⟨none, 0, 0, rfl, Own.nil _ _ _ _, hk1⟩
  · have hR : R = (expand l, 0) := by rw [hP.out, hok]; rfl
    subst hR
    obtain ⟨p, hp⟩ := totI_true hok
    have hp := hide hp
    have hge := (tot_right hp.out).ge
    have hle := (tot_right hp.out).le
    obtain ⟨N, hN⟩ : ∃ N : Nat, (totI l).1 = (N : Int) := ⟨(totI l).1.toNat, by omega⟩
    have hi : totI l = ((N : Int), true) := by rw [← hN, ← hok]
    rw [hi] at hTt
    rw [hN] at hge hle hp
    simp only at hTt
    have hall := hide (tot_right hp.out).all
    clear hi hN hok hP
    have hNb : N ≤ 100000 := by omega
    go_enter Tryd.func36, Tryd.ntmps36
    go_wp2_with fail
    refine hTt.out.mono ?_
    rintro e w1 ⟨rfl, hk1⟩
    clear hTt
    have hs1 := hk1.size
    go_upto_region 5 with (refine wpList_mk0 (n := N) (base := w.heap.size) ?_ rfl elCell rfl rfl rfl rfl ?o2 ?o3; intro w2 ho2 hk2)
    case o2 => omega
    case o3 => exact hs1
    have hK2 := hk1.trans hk2 (by simp)
    clear hk1 hk2 hs1
    go_wp2_with fail
    have hl := hide hl
    go_loopg [6, 8, 9, 10, 22, 23, 24, 25, 26, 27, 28, 29, 30, 31, 32, 33, 34, 35, 36, 37, 38, 39, 40, 41] n (fun kx s6 s8 s9 s10 s22 s23 s24 s25 s26 s27 s28 s29 s30 s31 s32 s33 s34 s35 s36 s37 s38 s39 s40 s41 wr => ∃ (k : Nat) (a' : Option Addr) (n' c' : Nat), s6 = .slice a' n' c' ∧ s22 = .int .i64 k ∧ k ≤ n ∧ n - k ≤ kx ∧ Hid (Own wr w.heap.size 30 a' n' c' 16 (cellsV (expand (l.take k)))) ∧ Kept [] w wr)
    case atStart => exact ⟨0, _, 0, N, rfl, rfl, Nat.zero_le _, by omega, hide (by simpa [expand, cellsV] using ho2), hK2⟩
    case round =>
      obtain ⟨k, a', n', c', rfl, rfl, hk, hg, ho, hkr⟩ := hrel
      by_cases hlt : k < n
      · have hkl : k < l.length := by rw [hl.out]; exact hlt
        obtain ⟨b, o, rfl⟩ := hH.out.runAddr (by omega)
        obtain ⟨q0, q1, q2, q3⟩ := (hH.out.run k hkl).kept hkr (by simp)
        have hkn : (k : Int) < (n : Int) := by omega
        have hxB := hBB.out l[k] (List.getElem_mem hkl)
        obtain ⟨hx1, hxo⟩ := hall.out l[k] (List.getElem_mem hkl)
        have hnext := hide (expand_take (l := l) hkl)
        have hlen := expand_take_len hp.out (k + 1)
        rw [hnext.out, List.length_append, List.length_replicate] at hlen
        generalize l[k] = x at *
        have hCx := hide (fun w1 hk => hC.out x.w hxB.w w1 hk)
        have hE : cellE x.w = (cellU x.w, 0) := if_pos hxo
        rw [hE] at hCx
        simp only at hCx
        generalize cellU x.w = X at *
        obtain ⟨M, hM⟩ : ∃ M : Nat, x.n = (M : Int) := ⟨x.n.toNat, by omega⟩
        rw [hM, Int.toNat_natCast] at hlen
        rw [hM, Int.toNat_natCast] at hnext
        replace hM := hide hM
        have hM := hide hM
        have hkr0 : Kept [] w (wr.alloc (.cells #[.int .i64 x.n, .int .u64 x.w.a, .int .u64 x.w.b, .int .u64 x.w.c] 67)) := hkr.alloc _
        have hbx : Hid (RunIn (wr.alloc (.cells #[.int .i64 x.n, .int .u64 x.w.a, .int .u64 x.w.b, .int .u64 x.w.c] 67)) wr.heap.size x) := hide (RunIn.new wr x)
        have ho1 := hide (ho.out.kept ((Kept.refl [] wr).alloc (.cells #[.int .i64 x.n, .int .u64 x.w.a, .int .u64 x.w.b, .int .u64 x.w.c] 67)) (by simp))
        obtain ⟨y0, y1, y2, y3⟩ := hbx.out.at
        go_wp2_with fail
        refine (hCx.out _ hkr0).mono ?_
        rintro e w4 ⟨rfl, hj4⟩
        have hk4 := hkr0.trans hj4 (by simp)
        have ho4 := ho1.out.kept hj4 (by simp)
        clear y0 y1 y2 y3
        have hz4 := CelIn.new w4 zeroK
        go_upto_region 9 with (refine wpList_store_cel rfl rfl rfl w4.heap.size rfl hz4 X rfl ?_; intro w5 hc5 hj5)
        have hk45 : Kept [] w4 w5 := ((Kept.refl [] w4).alloc _).trans hj5 (by intro z hz; simp at hz; omega)
        have hk5 := hk4.trans hk45 (by simp)
        have ho5 := hide (ho4.kept hk45 (by simp))
        obtain ⟨y0, y1, y2, y3⟩ := (hbx.out.kept hj4 (by simp)).at' hk45 (by simp)
        rw [hM.out] at y0
        have hne := hide (fun g (hg : g ∈ blk a') => (by have := (ho4.ge g hg).2; omega : g ≠ w4.heap.size))
        clear ho1 ho4 ho hz4 hj5 hj4 hkr0 hk4 hk45 q0 q1 q2 q3
        have hc5 := hide hc5
        have hb5 : w4.heap.size < w5.heap.size := hc5.out.lt
        go_wp2_with fail
        clear y0 y1 y2 y3
        go_loopg [6, 34, 35, 36, 37, 38, 39, 40] M (fun jx s6 s34 s35 s36 s37 s38 s39 s40 wr => ∃ (j : Nat) (a2 : Option Addr) (n2 c2 : Nat), s6 = .slice a2 n2 c2 ∧ s34 = .int .i64 j ∧ j ≤ M ∧ M - j ≤ jx ∧ Hid (Own wr w.heap.size 30 a2 n2 c2 16 (cellsV (expand (l.take k) ++ List.replicate j X))) ∧ Hid (∀ g ∈ blk a2, g ≠ w4.heap.size) ∧ Hid (CelIn wr w4.heap.size X) ∧ Kept [] w wr)
        case atStart => exact ⟨0, a', n', c', rfl, rfl, Nat.zero_le _, by omega, hide (by simpa using ho5.out), hne, hc5, hk5⟩
        case round =>
          obtain ⟨j, a2, n2, c2, rfl, rfl, hj, hgj, hoj, hnj, hcj, hkj⟩ := hrel
          by_cases hjt : j < M
          · have hjm : (j : Int) < (M : Int) := by omega
            have rj := hcj.out.range
            have hon := hide (hoj.out.kept ((Kept.refl [] wr).alloc (.cells #[.int .i32 X.r, .int .i32 X.m0, .int .i32 X.m1, .int .i32 X.m2, .int .i64 X.w, .int .i64 X.p.f.k, .int .u8 X.p.f.i, .int .u8 X.p.f.r, .int .u8 X.p.f.g, .int .u8 X.p.f.b, .int .i64 X.p.b.k, .int .u8 X.p.b.i, .int .u8 X.p.b.r, .int .u8 X.p.b.g, .int .u8 X.p.b.b, .int .u8 X.p.fl] 30)) (by simp))
            have hrn := hide (CelIn.new wr X).rd
            have hsz := hkj.size
            have hn2 := hoj.out.rd.clen
            rw [List.length_append, List.length_replicate] at hn2
            go_wp2_with (first | refine wpList_load_cel rfl rfl w4.heap.size 0 rfl rj ?_ | (at_builtin; refine wpList_app ?_ rfl elCell rfl rfl hon.out rfl hrn.out (cellsV_one _) ?o2 ?o3; intro a3 c3 w6 ho6 hk6 hat6))
            case o2 => omega
            case o3 => simp; omega
            go_roundg (M - (j + 1))
            case measure => omega
            case rel =>
              refine ⟨j + 1, a3, n2 + 1, c3, rfl, by push_cast; rfl, by omega, Nat.le_refl _, hide ?_, hide ?_, hide ?_, ?_⟩
              · rw [List.replicate_succ', ← List.append_assoc, cellsV_app _ [X]]
                exact ho6
              · intro g hg
                have hlt4 := hcj.out.lt
                rcases hat6 g hg with h1 | h1
                · exact hnj.out g h1
                · have h2 : wr.heap.size + 1 ≤ g := by simpa using h1
                  omega
              · exact (hcj.out.kept ((Kept.refl [] wr).alloc _) (by simp)).kept hk6 (fun hm => hnj.out _ hm rfl)
              · exact (hkj.alloc _).own hk6 (fun g hg => (hoj.out.ge g hg).1)
          · obtain rfl : j = M := by omega
            go_wp2_with fail
            go_roundg (n - (k + 1))
            case measure => omega
            case rel => exact ⟨k + 1, a2, n2, c2, rfl, by push_cast; rfl, by omega, Nat.le_refl _, hide (by rw [hnext.out]; exact hoj.out), hkj⟩
      · obtain rfl : k = n := by omega
        go_wp2_with fail
        go_ret2
        have e : l.take k = l := List.take_of_length_le (Nat.le_of_eq hl.out)
        rw [e] at ho
        exact ⟨a', n', c', rfl, ho.out, hkr⟩
end Go.Proofs.YtpdjlollijbdeaaDoor
