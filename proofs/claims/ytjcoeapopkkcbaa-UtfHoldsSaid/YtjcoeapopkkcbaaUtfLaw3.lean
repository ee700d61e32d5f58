/- The walk of the law UtfSteps. -/
import Derived.Test.YtjcoeapopkkcbaaUtfLaw1
namespace Go.Proofs.Ytjcoeapopkkcbaa
open Go.RowKit
set_option linter.unusedVariables false

set_option maxHeartbeats 400000 in
theorem UtfSteps_big (a : Option Addr) (n c : Nat) (t : Int) (w : World) (hn : 100 < n) : Calls Try.prog 4 #[.slice a n c, .int .i64 t] w (BoolKept true w) := by
  go_enter Try.func4, Try.ntmps4
  go_wp2_with fail
  refine (known_any _).mono ?_
  rintro e w1 ⟨rfl, hk⟩
  go_wp2_with fail
  go_ret
  exact ⟨rfl, hk⟩

/-- What UtfSteps has after some bytes: a decoder and a state of the reference with the same bytes pending. -/
structure StepsIn (S : Nat) (p : List Int) (db : Nat) (an : Option Addr) (nn cn : Nat) (w wr : World) : Prop where
  dec : Dec wr db 0 p
  cell : wr.cell? ⟨S, 0, none⟩ = some (.slice an nn cn)
  froz : wr.frozen? ⟨S, 0, none⟩ = false
  rd : Rd wr an nn 1 (ints .u8 p)
  kept : Kept [] w wr
  lo : w.heap.size ≤ S
  dlo : w.heap.size ≤ db
  dne : db ≠ S
  ane : ∀ g ∈ blk an, S < g ∧ g ≠ db

theorem StepsIn.of_kept {S : Nat} {p : List Int} {db : Nat} {an : Option Addr} {nn cn : Nat} {w wr wx : World} {T : List Nat} (h : StepsIn S p db an nn cn w wr) (hk : Kept T wr wx) (hT : ∀ x ∈ T, wr.heap.size ≤ x) (hlt : ∀ g ∈ blk an, g < wr.heap.size) : StepsIn S p db an nn cn w wx := by
  have hS : S < wr.heap.size := World.block_lt_of_cell? wr _ h.cell
  have hd := h.dec.lt
  exact ⟨h.dec.kept hk (fun hm => by have := hT _ hm; omega), hk.cell h.cell (fun hm => by have := hT _ hm; simp at this; omega), hk.frozen h.cell h.froz (fun hm => by have := hT _ hm; simp at this; omega),
    h.rd.kept hk (fun g hg hm => by have := hT _ hm; have := hlt g hg; omega), h.kept.trans hk (fun x hx => .inr (by have := hT x hx; have := h.kept.size; omega)), h.lo, h.dlo, h.dne, h.ane⟩

theorem StepsIn.of_kept_at {S : Nat} {p : List Int} {db : Nat} {an : Option Addr} {nn cn : Nat} {w wr wx : World} {G m : Nat} (h : StepsIn S p db an nn cn w wr) (hk : Kept [G] wr wx) (hG : m ≤ G) (hdm : db < m) (hlt : ∀ g ∈ blk an, g < m) (hSm : S < m) (hw : w.heap.size ≤ m) : StepsIn S p db an nn cn w wx :=
  ⟨h.dec.kept hk (by simp; omega), hk.cell h.cell (by simp; omega), hk.frozen h.cell h.froz (by simp; omega), h.rd.kept hk (fun g hg => by have := hlt g hg; simp; omega), h.kept.trans hk (by simp; omega), h.lo, h.dlo, h.dne, h.ane⟩

theorem Pending_at (b o : Nat) (p : List Int) (w : World) (hd : Dec w b o p) (hp : p.length ≤ 3) (h0 : 0 < p.length) :
    Calls Try.prog 16 #[.pointer (some ⟨b, o, none⟩)] w fun e w' => ∃ g c, e = .returned (.slice (some ⟨g, 0, none⟩) p.length c) ∧ w.heap.size ≤ g ∧ (∀ j, j < p.length → w'.cell? ⟨g, j, none⟩ = some (.int .u8 (p.getD j 0)) ∧ w'.frozen? ⟨g, j, none⟩ = false) ∧ Rd w' (some ⟨g, 0, none⟩) p.length 1 (ints .u8 p) ∧ Kept [] w w' := by
  refine (Pending_any b o p w hd hp).mono ?_
  rintro e w' ⟨a, n, c, rfl, ho, hk, hat⟩
  have hn : n = p.length := by have := ho.len; rw [ints_len] at this; omega
  subst hn
  obtain ⟨g, rfl, cur, hg⟩ := ho.form h0
  refine ⟨g, c, rfl, (ho.ge g (by simp [blk])).1, fun j hj => ⟨?_, ?_⟩, ho.rd, hk⟩
  · rcases ho.rd.2 with h | ⟨b', o', he, hc⟩
    · exact absurd h (ints_ne (List.ne_nil_of_length_pos h0))
    · simp at he
      obtain ⟨rfl, rfl⟩ := he
      have := Rd.at hc j hj
      rw [getD_at hj]
      simpa using this
  · exact frozen_of_row w' g j cur _ hg

theorem Pending_zero (b o : Nat) (w : World) (hd : Dec w b o []) :
    Calls Try.prog 16 #[.pointer (some ⟨b, o, none⟩)] w fun e w' => ∃ a c, e = .returned (.slice a 0 c) ∧ Rd w' a 0 1 (ints .u8 []) ∧ Kept [] w w' := by
  refine (Pending_any b o [] w hd (by simp)).mono ?_
  rintro e w' ⟨a, n, c, rfl, ho, hk, hat⟩
  have hn : n = 0 := by have := ho.len; simp [ints] at this; omega
  subst hn
  exact ⟨a, c, rfl, ho.rd, hk⟩

theorem End_at (b o : Nat) (p : List Int) (w : World) (hd : Dec w b o p) (h0 : 0 < p.length) :
    Calls Try.prog 17 #[.pointer (some ⟨b, o, none⟩)] w fun e w' => ∃ g c, e = .returned (.slice (some ⟨g, 0, none⟩) 1 c) ∧ w.heap.size ≤ g ∧ w'.cell? ⟨g, 0, none⟩ = some (.int .i32 65533) ∧ Kept [b] w w' ∧ Dec w' b o [] := by
  refine (End_any b o p w hd).mono ?_
  rintro e w' ⟨⟨a, n, c, rfl, ho, hk, hat⟩, hd', hw'⟩
  have he : endR p = [65533] := by unfold endR; rw [if_neg (List.ne_nil_of_length_pos h0)]
  rw [he] at ho
  have hn : n = 1 := by have := ho.len; simp [ints] at this; omega
  subst hn
  obtain ⟨g, rfl, cur, hg⟩ := ho.form (by omega)
  refine ⟨g, c, rfl, (ho.ge g (by simp [blk])).1, ?_, hk, hd'⟩
  rcases ho.rd.2 with h | ⟨b', o', he', hc⟩
  · simp [ints] at h
  · simp at he'
    obtain ⟨rfl, rfl⟩ := he'
    simpa using hc 0 (.int .i32 65533) (by simp [ints])

theorem End_zero (b o : Nat) (w : World) (hd : Dec w b o []) :
    Calls Try.prog 17 #[.pointer (some ⟨b, o, none⟩)] w fun e w' => ∃ a c, e = .returned (.slice a 0 c) ∧ Kept [b] w w' ∧ Dec w' b o [] := by
  refine (End_any b o [] w hd).mono ?_
  rintro e w' ⟨⟨a, n, c, rfl, ho, hk, hat⟩, hd', hw'⟩
  have hn : n = 0 := by have := ho.len; simp [ints, endR] at this; omega
  subst hn
  exact ⟨a, c, rfl, hk, hd'⟩

set_option maxHeartbeats 2000000 in
theorem UtfSteps_small (bb oo c : Nat) (z : List Int) (t : Int) (w : World) (hr : ∀ j u, (ints .u8 z)[j]? = some u → w.cell? ⟨bb, oo + j, none⟩ = some u) (hz : ∀ x ∈ z, 0 ≤ x ∧ x ≤ 255) (hn : z.length ≤ 100) :
    Calls Try.prog 4 #[.slice (some ⟨bb, oo, none⟩) z.length c, .int .i64 t] w (BoolKept true w) := by
  go_enter Try.func4, Try.ntmps4
  go_wp2_with fail
  go_loopw [5, 24] (fun d i wr => ∃ (k db : Nat) (an : Option Addr) (nn cn : Nat), k ≤ z.length ∧ i = .int .i64 k ∧ d = .pointer (some ⟨db, 0, none⟩) ∧ StepsIn (w.heap.size + 1) (feedP [] (z.take k)) db an nn cn w wr ∧ ∀ g ∈ blk an, g < wr.heap.size) (fun _ i _ => z.length - (intOf i).toNat)
  case atStart => exact ⟨0, w.heap.size, none, 0, 0, Nat.zero_le _, rfl, rfl, ⟨(Dec.new w _).kept ((Kept.refl [] _).alloc _) (by simp), by simp [go_sem], by simp [go_sem], Rd.nil _ _ _, ((Kept.refl [] w).alloc _).alloc _, by omega, Nat.le_refl _, by omega, by simp [blk]⟩, by simp [blk]⟩
  case round =>
    obtain ⟨k, db, an, nn, cn, hk, rfl, rfl, hI, hal⟩ := hrel
    have hinv : Inv (feedP [] (z.take k)) := Inv.feed _ True.intro
    by_cases hlt : k < z.length
    · have hc : wr.cell? ⟨bb, oo + k, none⟩ = some (.int .u8 z[k]) := hI.kept.cell (Rd.at hr k hlt) (by simp)
      have hv := hz z[k] (List.getElem_mem hlt)
      have hts := hide (show feedP [] (z.take (k + 1)) = stepP (feedP [] (z.take k)) z[k] by rw [take_snoc hlt, feedP_snoc])
      have hbb : bb < wr.heap.size := World.block_lt_of_cell? wr _ hc
      generalize z[k] = v at *
      generalize feedP [] (z.take k) = p at *
      have hv1 := hv.1
      have hv2 := hv.2
      have hv' := hide hv
      have hinv' := hide hinv
      have hplen := hinv.len
      clear hv hinv
      by_cases hat : (k : Int) = t
      · have hatb : ((k : Int) == t) = true := by rw [hat]; simp
        clear hat
        go_wp2_with fail
        refine (Copy_any _ _ _ wr hI.dec).mono ?_
        rintro e w2 ⟨rfl, hk2, hd2, hs2⟩
        have hI2 := hI.of_kept hk2 (by simp) hal
        have hsz2 := hk2.size
        go_wp2_with fail
        refine (Step_any _ _ _ 226 w2 hI2.dec hinv'.out (by omega)).mono ?_
        rintro e w3 ⟨⟨a3, n3, c3, rfl, ho3, hk3, hat3⟩, hd3, hw3⟩
        go_wp2_with fail
        refine (Step_any _ _ _ 130 w3 hd3 (hinv'.out.step _) (by omega)).mono ?_
        rintro e w4 ⟨⟨a4, n4, c4, rfl, ho4, hk4, hat4⟩, hd4, hw4⟩
        have hk24 : Kept [db] w2 w4 := Kept.trans (S := [db]) hk3 hk4 (by simp [blk])
        have hdlt := hI.dec.lt
        have hDn : wr.heap.size ≠ db := by omega
        have hS0 : w.heap.size + 1 < wr.heap.size := World.block_lt_of_cell? wr _ hI.cell
        have hsz4 := hk24.size
        have I4 : StepsIn (w.heap.size + 1) p wr.heap.size an nn cn w w4 := ⟨hd2.kept hk24 (by simp; omega), hk24.cell hI2.cell (by have := hI.dne; simp; omega), hk24.frozen hI2.cell hI2.froz (by have := hI.dne; simp; omega), hI2.rd.kept hk24 (fun g hg => by have := (hI.ane g hg).2; simp; omega), hI2.kept.trans hk24 (by have := hI.dlo; simp; omega), hI.lo, hI.kept.size, by omega, fun g hg => by have := (hI.ane g hg).1; have := hal g hg; omega⟩
        have hal4 : ∀ g ∈ blk an, g < w4.heap.size := fun g hg => by have := hal g hg; omega
        clear hd2 hI2 hk3 hk4 hd3 hd4 hw3 hw4 ho3 ho4 hat3 hat4
        generalize hDg : wr.heap.size = D at I4
        have hDg' := hide hDg
        clear hDg
        by_cases hpp : stepP p v = []
        · have hr4 := I4.rd
          have S4 := I4.cell
          go_wp2_with fail
          refine (rStep_any an nn cn p v w4 hinv'.out hr4 hv'.out).mono ?_
          rintro e w5 ⟨a5, n5, c5, a6, n6, c6, rfl, hr5, hg5, ho5, hk5⟩
          have s5 := hk5.size
          have I5 := I4.of_kept hk5 (by simp) hal4
          have I6 := I5.of_kept (((Kept.refl [] w5).alloc (.cells #[.slice a5 n5 c5] 33))) (by simp) (fun g hg => by have := hal4 g hg; omega)
          have hD4 := I4.dec.lt
          have hS4 : w.heap.size + 1 < w4.heap.size := World.block_lt_of_cell? w4 _ I4.cell
          go_wp2_with fail
          refine (Step_any D 0 p v _ I6.dec hinv'.out hv'.out).mono ?_
          rintro e w7 ⟨⟨a7, n7, c7, rfl, ho7, hk7, hat7⟩, hd7, hw7⟩
          have s7 := hk7.size
          simp only [World.size_alloc] at s7
          have hk57 : Kept [D] w5 w7 := ((Kept.refl [] w5).alloc _).mono (by simp) |>.trans hk7 (by simp [blk])
          have hk6' : Kept [D] (w5.alloc (.cells #[.slice a5 n5 c5] 33)) w7 := hk7
          have hsr := stepR_len p v
          go_wp2_with fail
          refine (Same_self _ _ _ _ _ _ (stepR p v) w7 ho7.rd (ho5.rd.kept hk57 (fun g hg => by have := (ho5.ge g hg).1; simp; omega)) (by omega)).mono ?_
          rintro e w8 ⟨rfl, hk8⟩
          have s8 := hk8.size
          have n8 : w8.cell? ⟨w5.heap.size, 0, none⟩ = some (.slice a5 n5 c5) := hk8.cell (hk6'.cell (v := .slice a5 n5 c5) (by simp [go_sem]) (by simp; omega)) (by simp)
          have S8 : w8.cell? ⟨w.heap.size + 1, 0, none⟩ = some (.slice an nn cn) := hk8.cell (hk57.cell I5.cell (by have := I4.dne; simp; omega)) (by simp)
          have F8 : w8.frozen? ⟨w.heap.size + 1, 0, none⟩ = false := hk8.frozen (hk57.cell I5.cell (by have := I4.dne; simp; omega)) (hk57.frozen I5.cell I5.froz (by have := I4.dne; simp; omega)) (by simp)
          have hk9 : Kept [w.heap.size + 1] w8 (w8.setCell ⟨w.heap.size + 1, 0, none⟩ (.slice a5 n5 c5)) := (Kept.refl _ _).setCell (.inl (by simp)) _
          have hd9 := (hd7.kept hk8 (by simp)).kept hk9 (by have := I4.dne; simp; omega)
          have S9 : (w8.setCell ⟨w.heap.size + 1, 0, none⟩ (.slice a5 n5 c5)).cell? ⟨w.heap.size + 1, 0, none⟩ = some (.slice a5 n5 c5) := World.cell?_setCell_same _ _ _ S8
          have F9 : (w8.setCell ⟨w.heap.size + 1, 0, none⟩ (.slice a5 n5 c5)).frozen? ⟨w.heap.size + 1, 0, none⟩ = false := (World.frozen?_setCell _ _ _ _).trans F8
          have hr9 := ((hr5.kept hk57 (fun g hg => by have := (hg5 g hg).1; simp; omega)).kept hk8 (by simp)).kept hk9 (fun g hg => by have := (hg5 g hg).1; simp; omega)
          have hK9 : Kept [] w (w8.setCell ⟨w.heap.size + 1, 0, none⟩ (.slice a5 n5 c5)) := (((I5.kept.trans hk57 (by have := I4.dlo; simp; omega)).trans hk8 (by simp)).trans hk9 (by simp))
          have I9 : StepsIn (w.heap.size + 1) (stepP p v) D a5 n5 c5 w (w8.setCell ⟨w.heap.size + 1, 0, none⟩ (.slice a5 n5 c5)) := ⟨hd9, S9, F9, hr9, hK9, I4.lo, I4.dlo, I4.dne, fun g hg => by have := (hg5 g hg).1; omega⟩
          have hal9 : ∀ g ∈ blk a5, g < (w8.setCell ⟨w.heap.size + 1, 0, none⟩ (.slice a5 n5 c5)).heap.size := fun g hg => by have := (hg5 g hg).2; simp; omega
          have hplen' := (hinv'.out.step v).len
          generalize hP : stepP p v = P at *
          have hP' := hide hP
          clear hP
          go_wp2_with fail
          generalize w8.setCell ⟨w.heap.size + 1, 0, none⟩ (.slice a5 n5 c5) = w9 at *
          subst hpp
          refine (Pending_zero D 0 w9 I9.dec).mono ?_
          rintro e w10 ⟨a10, c10, rfl, hr10, hk10⟩
          have I10 := I9.of_kept hk10 (by simp) hal9
          have hn5 : n5 = 0 := by have := I10.rd.1; simp [ints] at this; omega
          have q1 := conv_bytes w10 a10 0 c10 [] hr10
          have q2 := conv_bytes w10 a5 n5 c5 [] I10.rd
          have S10 := I10.cell
          have s10 := hk10.size
          have hn5' := hide hn5
          clear hn5
          go_wp2_with fail
          refine wp_loop_rounds 1 ?_
          rw [rounds_succ]
          go_wp2_with fail
          go_roundw
          case rel => exact ⟨k + 1, D, a5, n5, c5, by omega, by go_num, rfl, by rw [hts.out]; exact I10, fun g hg => by have := hal9 g hg; omega⟩
          case measure => simp [intOf]; omega
        · have hpp : 0 < (stepP p v).length := List.length_pos_iff.2 hpp
          have hr4 := I4.rd
          have S4 := I4.cell
          go_wp2_with fail
          refine (rStep_any an nn cn p v w4 hinv'.out hr4 hv'.out).mono ?_
          rintro e w5 ⟨a5, n5, c5, a6, n6, c6, rfl, hr5, hg5, ho5, hk5⟩
          have s5 := hk5.size
          have I5 := I4.of_kept hk5 (by simp) hal4
          have I6 := I5.of_kept (((Kept.refl [] w5).alloc (.cells #[.slice a5 n5 c5] 33))) (by simp) (fun g hg => by have := hal4 g hg; omega)
          have hD4 := I4.dec.lt
          have hS4 : w.heap.size + 1 < w4.heap.size := World.block_lt_of_cell? w4 _ I4.cell
          go_wp2_with fail
          refine (Step_any D 0 p v _ I6.dec hinv'.out hv'.out).mono ?_
          rintro e w7 ⟨⟨a7, n7, c7, rfl, ho7, hk7, hat7⟩, hd7, hw7⟩
          have s7 := hk7.size
          simp only [World.size_alloc] at s7
          have hk57 : Kept [D] w5 w7 := ((Kept.refl [] w5).alloc _).mono (by simp) |>.trans hk7 (by simp [blk])
          have hk6' : Kept [D] (w5.alloc (.cells #[.slice a5 n5 c5] 33)) w7 := hk7
          have hsr := stepR_len p v
          go_wp2_with fail
          refine (Same_self _ _ _ _ _ _ (stepR p v) w7 ho7.rd (ho5.rd.kept hk57 (fun g hg => by have := (ho5.ge g hg).1; simp; omega)) (by omega)).mono ?_
          rintro e w8 ⟨rfl, hk8⟩
          have s8 := hk8.size
          have n8 : w8.cell? ⟨w5.heap.size, 0, none⟩ = some (.slice a5 n5 c5) := hk8.cell (hk6'.cell (v := .slice a5 n5 c5) (by simp [go_sem]) (by simp; omega)) (by simp)
          have S8 : w8.cell? ⟨w.heap.size + 1, 0, none⟩ = some (.slice an nn cn) := hk8.cell (hk57.cell I5.cell (by have := I4.dne; simp; omega)) (by simp)
          have F8 : w8.frozen? ⟨w.heap.size + 1, 0, none⟩ = false := hk8.frozen (hk57.cell I5.cell (by have := I4.dne; simp; omega)) (hk57.frozen I5.cell I5.froz (by have := I4.dne; simp; omega)) (by simp)
          have hk9 : Kept [w.heap.size + 1] w8 (w8.setCell ⟨w.heap.size + 1, 0, none⟩ (.slice a5 n5 c5)) := (Kept.refl _ _).setCell (.inl (by simp)) _
          have hd9 := (hd7.kept hk8 (by simp)).kept hk9 (by have := I4.dne; simp; omega)
          have S9 : (w8.setCell ⟨w.heap.size + 1, 0, none⟩ (.slice a5 n5 c5)).cell? ⟨w.heap.size + 1, 0, none⟩ = some (.slice a5 n5 c5) := World.cell?_setCell_same _ _ _ S8
          have F9 : (w8.setCell ⟨w.heap.size + 1, 0, none⟩ (.slice a5 n5 c5)).frozen? ⟨w.heap.size + 1, 0, none⟩ = false := (World.frozen?_setCell _ _ _ _).trans F8
          have hr9 := ((hr5.kept hk57 (fun g hg => by have := (hg5 g hg).1; simp; omega)).kept hk8 (by simp)).kept hk9 (fun g hg => by have := (hg5 g hg).1; simp; omega)
          have hK9 : Kept [] w (w8.setCell ⟨w.heap.size + 1, 0, none⟩ (.slice a5 n5 c5)) := (((I5.kept.trans hk57 (by have := I4.dlo; simp; omega)).trans hk8 (by simp)).trans hk9 (by simp))
          have I9 : StepsIn (w.heap.size + 1) (stepP p v) D a5 n5 c5 w (w8.setCell ⟨w.heap.size + 1, 0, none⟩ (.slice a5 n5 c5)) := ⟨hd9, S9, F9, hr9, hK9, I4.lo, I4.dlo, I4.dne, fun g hg => by have := (hg5 g hg).1; omega⟩
          have hal9 : ∀ g ∈ blk a5, g < (w8.setCell ⟨w.heap.size + 1, 0, none⟩ (.slice a5 n5 c5)).heap.size := fun g hg => by have := (hg5 g hg).2; simp; omega
          have hplen' := (hinv'.out.step v).len
          generalize hP : stepP p v = P at *
          have hP' := hide hP
          clear hP
          go_wp2_with fail
          generalize w8.setCell ⟨w.heap.size + 1, 0, none⟩ (.slice a5 n5 c5) = w9 at *
          refine (Pending_at D 0 P w9 I9.dec hplen' hpp).mono ?_
          rintro e w10 ⟨G, c10, rfl, hG, hcells, hr10, hk10⟩
          have I10 := I9.of_kept hk10 (by simp) hal9
          have q1 := conv_bytes w10 (some ⟨G, 0, none⟩) P.length c10 P hr10
          have q2 := conv_bytes w10 a5 n5 c5 P I10.rd
          have S10 := I10.cell
          have s10 := hk10.size
          have hcells' := hide hcells
          clear hcells
          go_wp2_with fail
          obtain ⟨wo, rfl⟩ : ∃ wo : World, wo = wr := ⟨_, rfl⟩
          go_loopw [64] (fun i wq => ∃ j : Nat, j ≤ P.length ∧ i = .int .i64 j ∧ (∀ q, q < P.length → ∃ u, wq.cell? ⟨G, q, none⟩ = some (.int .u8 u) ∧ wq.frozen? ⟨G, q, none⟩ = false) ∧ Kept [G] w10 wq) (fun i _ => P.length - (intOf i).toNat)
          case atStart => exact ⟨0, Nat.zero_le _, rfl, fun q hq => ⟨_, hcells'.out q hq⟩, Kept.refl _ _⟩
          case round =>
            obtain ⟨j, hj, rfl, hcc, hkq⟩ := hrel
            by_cases hjl : j < P.length
            · obtain ⟨u, hu, fu⟩ := hcc j hjl
              have hcc' := hide hcc
              clear hcc
              go_wp2_with fail
              go_roundw
              case rel =>
                refine ⟨j + 1, by omega, by go_num, fun q hq => ?_, hkq.setCell (.inl (by simp)) _⟩
                obtain ⟨x, hx, fx⟩ := hcc'.out q hq
                by_cases hqj : q = j
                · subst hqj
                  exact ⟨_, World.cell?_setCell_same _ _ _ hx, (World.frozen?_setCell _ _ _ _).trans fx⟩
                · exact ⟨x, (World.cell?_setCell_other _ _ _ _ (by intro e; injection e; omega)).trans hx, (World.frozen?_setCell _ _ _ _).trans fx⟩
              case measure => simp [intOf]; omega
            · obtain rfl : j = P.length := by omega
              have hcc' := hide hcc
              clear hcc
              have I11 := I10.of_kept_at hkq hG I9.dec.lt hal9 (World.block_lt_of_cell? w9 _ I9.cell) I9.kept.size
              have hsq := hkq.size
              go_wp2_with fail
              go_roundw
              case rel => exact ⟨k + 1, D, a5, n5, c5, by omega, by go_num, rfl, by rw [hts.out]; exact I11, fun g hg => by have := hal9 g hg; omega⟩
              case measure => simp [intOf]; omega
      · have hatb : ((k : Int) == t) = false := beq_eq_false_iff_ne.2 hat
        clear hat
        have I4 := hI
        have hal4 := hal
        obtain ⟨w4, rfl⟩ : ∃ w4 : World, w4 = wr := ⟨_, rfl⟩
        obtain ⟨D, rfl⟩ : ∃ D : Nat, D = db := ⟨_, rfl⟩
        by_cases hpp : stepP p v = []
        · have hr4 := I4.rd
          have S4 := I4.cell
          go_wp2_with fail
          refine (rStep_any an nn cn p v w4 hinv'.out hr4 hv'.out).mono ?_
          rintro e w5 ⟨a5, n5, c5, a6, n6, c6, rfl, hr5, hg5, ho5, hk5⟩
          have s5 := hk5.size
          have I5 := I4.of_kept hk5 (by simp) hal4
          have I6 := I5.of_kept (((Kept.refl [] w5).alloc (.cells #[.slice a5 n5 c5] 33))) (by simp) (fun g hg => by have := hal4 g hg; omega)
          have hD4 := I4.dec.lt
          have hS4 : w.heap.size + 1 < w4.heap.size := World.block_lt_of_cell? w4 _ I4.cell
          go_wp2_with fail
          refine (Step_any D 0 p v _ I6.dec hinv'.out hv'.out).mono ?_
          rintro e w7 ⟨⟨a7, n7, c7, rfl, ho7, hk7, hat7⟩, hd7, hw7⟩
          have s7 := hk7.size
          simp only [World.size_alloc] at s7
          have hk57 : Kept [D] w5 w7 := ((Kept.refl [] w5).alloc _).mono (by simp) |>.trans hk7 (by simp [blk])
          have hk6' : Kept [D] (w5.alloc (.cells #[.slice a5 n5 c5] 33)) w7 := hk7
          have hsr := stepR_len p v
          go_wp2_with fail
          refine (Same_self _ _ _ _ _ _ (stepR p v) w7 ho7.rd (ho5.rd.kept hk57 (fun g hg => by have := (ho5.ge g hg).1; simp; omega)) (by omega)).mono ?_
          rintro e w8 ⟨rfl, hk8⟩
          have s8 := hk8.size
          have n8 : w8.cell? ⟨w5.heap.size, 0, none⟩ = some (.slice a5 n5 c5) := hk8.cell (hk6'.cell (v := .slice a5 n5 c5) (by simp [go_sem]) (by simp; omega)) (by simp)
          have S8 : w8.cell? ⟨w.heap.size + 1, 0, none⟩ = some (.slice an nn cn) := hk8.cell (hk57.cell I5.cell (by have := I4.dne; simp; omega)) (by simp)
          have F8 : w8.frozen? ⟨w.heap.size + 1, 0, none⟩ = false := hk8.frozen (hk57.cell I5.cell (by have := I4.dne; simp; omega)) (hk57.frozen I5.cell I5.froz (by have := I4.dne; simp; omega)) (by simp)
          have hk9 : Kept [w.heap.size + 1] w8 (w8.setCell ⟨w.heap.size + 1, 0, none⟩ (.slice a5 n5 c5)) := (Kept.refl _ _).setCell (.inl (by simp)) _
          have hd9 := (hd7.kept hk8 (by simp)).kept hk9 (by have := I4.dne; simp; omega)
          have S9 : (w8.setCell ⟨w.heap.size + 1, 0, none⟩ (.slice a5 n5 c5)).cell? ⟨w.heap.size + 1, 0, none⟩ = some (.slice a5 n5 c5) := World.cell?_setCell_same _ _ _ S8
          have F9 : (w8.setCell ⟨w.heap.size + 1, 0, none⟩ (.slice a5 n5 c5)).frozen? ⟨w.heap.size + 1, 0, none⟩ = false := (World.frozen?_setCell _ _ _ _).trans F8
          have hr9 := ((hr5.kept hk57 (fun g hg => by have := (hg5 g hg).1; simp; omega)).kept hk8 (by simp)).kept hk9 (fun g hg => by have := (hg5 g hg).1; simp; omega)
          have hK9 : Kept [] w (w8.setCell ⟨w.heap.size + 1, 0, none⟩ (.slice a5 n5 c5)) := (((I5.kept.trans hk57 (by have := I4.dlo; simp; omega)).trans hk8 (by simp)).trans hk9 (by simp))
          have I9 : StepsIn (w.heap.size + 1) (stepP p v) D a5 n5 c5 w (w8.setCell ⟨w.heap.size + 1, 0, none⟩ (.slice a5 n5 c5)) := ⟨hd9, S9, F9, hr9, hK9, I4.lo, I4.dlo, I4.dne, fun g hg => by have := (hg5 g hg).1; omega⟩
          have hal9 : ∀ g ∈ blk a5, g < (w8.setCell ⟨w.heap.size + 1, 0, none⟩ (.slice a5 n5 c5)).heap.size := fun g hg => by have := (hg5 g hg).2; simp; omega
          have hplen' := (hinv'.out.step v).len
          generalize hP : stepP p v = P at *
          have hP' := hide hP
          clear hP
          go_wp2_with fail
          generalize w8.setCell ⟨w.heap.size + 1, 0, none⟩ (.slice a5 n5 c5) = w9 at *
          subst hpp
          refine (Pending_zero D 0 w9 I9.dec).mono ?_
          rintro e w10 ⟨a10, c10, rfl, hr10, hk10⟩
          have I10 := I9.of_kept hk10 (by simp) hal9
          have hn5 : n5 = 0 := by have := I10.rd.1; simp [ints] at this; omega
          have q1 := conv_bytes w10 a10 0 c10 [] hr10
          have q2 := conv_bytes w10 a5 n5 c5 [] I10.rd
          have S10 := I10.cell
          have s10 := hk10.size
          have hn5' := hide hn5
          clear hn5
          go_wp2_with fail
          refine wp_loop_rounds 1 ?_
          rw [rounds_succ]
          go_wp2_with fail
          go_roundw
          case rel => exact ⟨k + 1, D, a5, n5, c5, by omega, by go_num, rfl, by rw [hts.out]; exact I10, fun g hg => by have := hal9 g hg; omega⟩
          case measure => simp [intOf]; omega
        · have hpp : 0 < (stepP p v).length := List.length_pos_iff.2 hpp
          have hr4 := I4.rd
          have S4 := I4.cell
          go_wp2_with fail
          refine (rStep_any an nn cn p v w4 hinv'.out hr4 hv'.out).mono ?_
          rintro e w5 ⟨a5, n5, c5, a6, n6, c6, rfl, hr5, hg5, ho5, hk5⟩
          have s5 := hk5.size
          have I5 := I4.of_kept hk5 (by simp) hal4
          have I6 := I5.of_kept (((Kept.refl [] w5).alloc (.cells #[.slice a5 n5 c5] 33))) (by simp) (fun g hg => by have := hal4 g hg; omega)
          have hD4 := I4.dec.lt
          have hS4 : w.heap.size + 1 < w4.heap.size := World.block_lt_of_cell? w4 _ I4.cell
          go_wp2_with fail
          refine (Step_any D 0 p v _ I6.dec hinv'.out hv'.out).mono ?_
          rintro e w7 ⟨⟨a7, n7, c7, rfl, ho7, hk7, hat7⟩, hd7, hw7⟩
          have s7 := hk7.size
          simp only [World.size_alloc] at s7
          have hk57 : Kept [D] w5 w7 := ((Kept.refl [] w5).alloc _).mono (by simp) |>.trans hk7 (by simp [blk])
          have hk6' : Kept [D] (w5.alloc (.cells #[.slice a5 n5 c5] 33)) w7 := hk7
          have hsr := stepR_len p v
          go_wp2_with fail
          refine (Same_self _ _ _ _ _ _ (stepR p v) w7 ho7.rd (ho5.rd.kept hk57 (fun g hg => by have := (ho5.ge g hg).1; simp; omega)) (by omega)).mono ?_
          rintro e w8 ⟨rfl, hk8⟩
          have s8 := hk8.size
          have n8 : w8.cell? ⟨w5.heap.size, 0, none⟩ = some (.slice a5 n5 c5) := hk8.cell (hk6'.cell (v := .slice a5 n5 c5) (by simp [go_sem]) (by simp; omega)) (by simp)
          have S8 : w8.cell? ⟨w.heap.size + 1, 0, none⟩ = some (.slice an nn cn) := hk8.cell (hk57.cell I5.cell (by have := I4.dne; simp; omega)) (by simp)
          have F8 : w8.frozen? ⟨w.heap.size + 1, 0, none⟩ = false := hk8.frozen (hk57.cell I5.cell (by have := I4.dne; simp; omega)) (hk57.frozen I5.cell I5.froz (by have := I4.dne; simp; omega)) (by simp)
          have hk9 : Kept [w.heap.size + 1] w8 (w8.setCell ⟨w.heap.size + 1, 0, none⟩ (.slice a5 n5 c5)) := (Kept.refl _ _).setCell (.inl (by simp)) _
          have hd9 := (hd7.kept hk8 (by simp)).kept hk9 (by have := I4.dne; simp; omega)
          have S9 : (w8.setCell ⟨w.heap.size + 1, 0, none⟩ (.slice a5 n5 c5)).cell? ⟨w.heap.size + 1, 0, none⟩ = some (.slice a5 n5 c5) := World.cell?_setCell_same _ _ _ S8
          have F9 : (w8.setCell ⟨w.heap.size + 1, 0, none⟩ (.slice a5 n5 c5)).frozen? ⟨w.heap.size + 1, 0, none⟩ = false := (World.frozen?_setCell _ _ _ _).trans F8
          have hr9 := ((hr5.kept hk57 (fun g hg => by have := (hg5 g hg).1; simp; omega)).kept hk8 (by simp)).kept hk9 (fun g hg => by have := (hg5 g hg).1; simp; omega)
          have hK9 : Kept [] w (w8.setCell ⟨w.heap.size + 1, 0, none⟩ (.slice a5 n5 c5)) := (((I5.kept.trans hk57 (by have := I4.dlo; simp; omega)).trans hk8 (by simp)).trans hk9 (by simp))
          have I9 : StepsIn (w.heap.size + 1) (stepP p v) D a5 n5 c5 w (w8.setCell ⟨w.heap.size + 1, 0, none⟩ (.slice a5 n5 c5)) := ⟨hd9, S9, F9, hr9, hK9, I4.lo, I4.dlo, I4.dne, fun g hg => by have := (hg5 g hg).1; omega⟩
          have hal9 : ∀ g ∈ blk a5, g < (w8.setCell ⟨w.heap.size + 1, 0, none⟩ (.slice a5 n5 c5)).heap.size := fun g hg => by have := (hg5 g hg).2; simp; omega
          have hplen' := (hinv'.out.step v).len
          generalize hP : stepP p v = P at *
          have hP' := hide hP
          clear hP
          go_wp2_with fail
          generalize w8.setCell ⟨w.heap.size + 1, 0, none⟩ (.slice a5 n5 c5) = w9 at *
          refine (Pending_at D 0 P w9 I9.dec hplen' hpp).mono ?_
          rintro e w10 ⟨G, c10, rfl, hG, hcells, hr10, hk10⟩
          have I10 := I9.of_kept hk10 (by simp) hal9
          have q1 := conv_bytes w10 (some ⟨G, 0, none⟩) P.length c10 P hr10
          have q2 := conv_bytes w10 a5 n5 c5 P I10.rd
          have S10 := I10.cell
          have s10 := hk10.size
          have hcells' := hide hcells
          clear hcells
          go_wp2_with fail
          go_loopw [64] (fun i wq => ∃ j : Nat, j ≤ P.length ∧ i = .int .i64 j ∧ (∀ q, q < P.length → ∃ u, wq.cell? ⟨G, q, none⟩ = some (.int .u8 u) ∧ wq.frozen? ⟨G, q, none⟩ = false) ∧ Kept [G] w10 wq) (fun i _ => P.length - (intOf i).toNat)
          case atStart => exact ⟨0, Nat.zero_le _, rfl, fun q hq => ⟨_, hcells'.out q hq⟩, Kept.refl _ _⟩
          case round =>
            obtain ⟨j, hj, rfl, hcc, hkq⟩ := hrel
            by_cases hjl : j < P.length
            · obtain ⟨u, hu, fu⟩ := hcc j hjl
              have hcc' := hide hcc
              clear hcc
              go_wp2_with fail
              go_roundw
              case rel =>
                refine ⟨j + 1, by omega, by go_num, fun q hq => ?_, hkq.setCell (.inl (by simp)) _⟩
                obtain ⟨x, hx, fx⟩ := hcc'.out q hq
                by_cases hqj : q = j
                · subst hqj
                  exact ⟨_, World.cell?_setCell_same _ _ _ hx, (World.frozen?_setCell _ _ _ _).trans fx⟩
                · exact ⟨x, (World.cell?_setCell_other _ _ _ _ (by intro e; injection e; omega)).trans hx, (World.frozen?_setCell _ _ _ _).trans fx⟩
              case measure => simp [intOf]; omega
            · obtain rfl : j = P.length := by omega
              have hcc' := hide hcc
              clear hcc
              have I11 := I10.of_kept_at hkq hG I9.dec.lt hal9 (World.block_lt_of_cell? w9 _ I9.cell) I9.kept.size
              have hsq := hkq.size
              go_wp2_with fail
              go_roundw
              case rel => exact ⟨k + 1, D, a5, n5, c5, by omega, by go_num, rfl, by rw [hts.out]; exact I11, fun g hg => by have := hal9 g hg; omega⟩
              case measure => simp [intOf]; omega
    · obtain rfl : k = z.length := by omega
      rw [List.take_length] at hI hinv
      generalize feedP [] z = p at *
      have S4 := hI.cell
      have hplen := hinv.len
      have hdl := hI.dec.lt
      have K0 := hI.kept
      have hd0 := hI.dec
      have hnn : nn = p.length := by have := hI.rd.1; rw [ints_len] at this; omega
      have hlo := hI.dlo
      subst hnn
      have hI' := hide hI
      clear hI hinv
      by_cases hp : p = []
      · subst hp
        go_wp2_with fail
        refine (End_zero db 0 wr hd0).mono ?_
        rintro e w1 ⟨a1, c1, rfl, hk1, hd1⟩
        go_wp2_with fail
        refine (Pending_zero db 0 w1 hd1).mono ?_
        rintro e w2 ⟨a2, c2, rfl, hr2, hk2⟩
        have hd2 := hd1.kept hk2 (by simp)
        go_wp2_with fail
        refine (End_zero db 0 w2 hd2).mono ?_
        rintro e w3 ⟨a3, c3, rfl, hk3, hd3⟩
        go_wp2_with fail
        refine (known_any _).mono ?_
        rintro e w4 ⟨rfl, hk4⟩
        go_wp2_with fail
        go_ret
        exact ⟨rfl, (((K0.trans hk1 (by simp; omega)).trans hk2 (by simp)).trans hk3 (by simp; omega)).trans hk4 (by simp)⟩
      · have hp0 : 0 < p.length := List.length_pos_iff.2 hp
        have hp0' : (0 : Int) < (p.length : Int) := by omega
        clear hp
        go_wp2_with fail
        refine (End_at db 0 p wr hd0 hp0).mono ?_
        rintro e w1 ⟨g1, c1, rfl, hg1, hcell1, hk1, hd1⟩
        go_wp2_with fail
        refine (Pending_zero db 0 w1 hd1).mono ?_
        rintro e w2 ⟨a2, c2, rfl, hr2, hk2⟩
        have hd2 := hd1.kept hk2 (by simp)
        go_wp2_with fail
        refine (End_zero db 0 w2 hd2).mono ?_
        rintro e w3 ⟨a3, c3, rfl, hk3, hd3⟩
        go_wp2_with fail
        refine (known_any _).mono ?_
        rintro e w4 ⟨rfl, hk4⟩
        go_wp2_with fail
        go_ret
        exact ⟨rfl, (((K0.trans hk1 (by simp; omega)).trans hk2 (by simp)).trans hk3 (by simp; omega)).trans hk4 (by simp)⟩

set_option maxHeartbeats 1000000 in
theorem UtfSteps_none (a : Option Addr) (c : Nat) (t : Int) (w : World) : Calls Try.prog 4 #[.slice a 0 c, .int .i64 t] w (BoolKept true w) := by
  go_enter Try.func4, Try.ntmps4
  go_wp2_with fail
  refine wp_loop_rounds 1 ?_
  rw [rounds_succ]
  go_wp2_with fail
  have hd0 := (Dec.new w 31).kept ((Kept.refl [] _).alloc (.cells #[.slice none 0 0] 33)) (by simp)
  have K0 := ((Kept.refl [] w).alloc (.cells #[.int .u8 0, .int .u8 0, .int .u8 0, .int .i64 0] 31)).alloc (.cells #[.slice none 0 0] 33)
  refine (End_zero w.heap.size 0 _ hd0).mono ?_
  rintro e w1 ⟨a1, c1, rfl, hk1, hd1⟩
  go_wp2_with fail
  refine (Pending_zero w.heap.size 0 w1 hd1).mono ?_
  rintro e w2 ⟨a2, c2, rfl, hr2, hk2⟩
  have hd2 := hd1.kept hk2 (by simp)
  go_wp2_with fail
  refine (End_zero w.heap.size 0 w2 hd2).mono ?_
  rintro e w3 ⟨a3, c3, rfl, hk3, hd3⟩
  go_wp2_with fail
  refine (known_any _).mono ?_
  rintro e w4 ⟨rfl, hk4⟩
  go_wp2_with fail
  go_ret
  exact ⟨rfl, (((K0.trans hk1 (by simp)).trans hk2 (by simp)).trans hk3 (by simp)).trans hk4 (by simp)⟩

theorem UtfSteps_walk (a : Option Addr) (n c : Nat) (z : List Int) (t : Int) (w : World) (hr : Rd w a n 1 (ints .u8 z)) (hz : ∀ x ∈ z, 0 ≤ x ∧ x ≤ 255) : Calls Try.prog 4 #[.slice a n c, .int .i64 t] w (BoolKept true w) := by
  have hzl : n = z.length := by have := hr.1; rw [ints_len] at this; omega
  by_cases hn : n ≤ 100
  · subst hzl
    rcases hr.2 with h0 | ⟨bb, oo, rfl, hc⟩
    · have : z = [] := by simpa [ints] using h0
      subst this
      exact UtfSteps_none a c t w
    · exact UtfSteps_small bb oo c z t w hc hz hn
  · exact UtfSteps_big a n c t w (by omega)
end Go.Proofs.Ytjcoeapopkkcbaa
