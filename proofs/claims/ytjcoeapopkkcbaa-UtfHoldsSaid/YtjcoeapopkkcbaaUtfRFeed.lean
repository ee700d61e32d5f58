/- The reference of layer 1: State.Feed, Decode. -/
import Derived.Test.YtjcoeapopkkcbaaUtfRStep
namespace Go.Proofs.Ytjcoeapopkkcbaa
open Go.RowKit
set_option linter.unusedVariables false

/-- What the reference's Feed has after some bytes: its two cells, the runes so far. -/
structure RFeedIn (B : Nat) (p r : List Int) (an : Option Addr) (nn cn : Nat) (al : Option Addr) (nl cl : Nat) (w wr : World) : Prop where
  own : Own wr B 21 al nl cl 1 (ints .i32 r)
  c0 : wr.cell? ⟨B, 0, none⟩ = some (.slice an nn cn)
  f0 : wr.frozen? ⟨B, 0, none⟩ = false
  c1 : wr.cell? ⟨B + 1, 0, none⟩ = some (.slice none 0 0)
  f1 : wr.frozen? ⟨B + 1, 0, none⟩ = false
  rd : Rd wr an nn 1 (ints .u8 p)
  ga : ∀ g ∈ blk an, B + 2 ≤ g ∧ g < wr.heap.size
  gl : ∀ g ∈ blk al, B + 2 ≤ g
  kept : Kept [] w wr
  size : B + 2 ≤ wr.heap.size

set_option maxHeartbeats 1000000 in
theorem rFeed_some (bb oo cb : Nat) (bs : List Int) (w : World) (hbs : ∀ x ∈ bs, 0 ≤ x ∧ x ≤ 255)
    (hr : ∀ j u, (ints .u8 bs)[j]? = some u → w.cell? ⟨bb, oo + j, none⟩ = some u) (hn : bs.length ≤ 100000) :
    Calls Try.prog 26 #[.agg #[.slice none 0 0], .slice (some ⟨bb, oo, none⟩) bs.length cb] w (RStepRet (feedP [] bs) (feedR [] bs) w) := by
  go_enter Try.func26, Try.ntmps26
  go_wp2_with fail
  go_loopw [6, 7] (fun v i wr => ∃ (k : Nat) (an : Option Addr) (nn cn : Nat) (al : Option Addr) (nl cl : Nat), k ≤ bs.length ∧ i = .int .i64 k ∧ v = .slice al nl cl ∧ RFeedIn w.heap.size (feedP [] (bs.take k)) (feedR [] (bs.take k)) an nn cn al nl cl w wr) (fun _ i _ => bs.length - (intOf i).toNat)
  case atStart => exact ⟨0, none, 0, 0, none, 0, 0, Nat.zero_le _, rfl, rfl, ⟨Own.nil _ _ _ _, by simp [go_sem], by simp [go_sem], by simp [go_sem], by simp [go_sem], Rd.nil _ _ _, by simp [blk], by simp [blk], ((Kept.refl _ _).alloc _).alloc _, by simp⟩⟩
  case round =>
    obtain ⟨k, an, nn, cn, al, nl, cl, hk, rfl, rfl, hI⟩ := hrel
    have hI' := hide hI
    obtain ⟨ho, c0, f0, c1, f1, hrd, hga, hgl, hkk, hsz⟩ := hI
    by_cases hlt : k < bs.length
    · have hc : wr.cell? ⟨bb, oo + k, none⟩ = some (.int .u8 bs[k]) := hkk.cell (Rd.at hr k hlt) (by simp)
      have hv := hbs bs[k] (List.getElem_mem hlt)
      have hts := hide (take_snoc hlt)
      have hinv : Inv (feedP [] (bs.take k)) := Inv.feed _ True.intro
      have hfl := feedR_len (bs.take k) []
      have htl : (bs.take k).length ≤ k := List.length_take_le _ _
      have hlen := ho.len
      rw [ints_len] at hlen
      generalize bs[k] = v at *
      have hst := hide (fun W (h : Rd W an nn 1 _) => rStep_any an nn cn _ v W hinv h hv)
      have hnl : nl ≤ 200000 := by omega
      have q0 : (0 : Int) ≤ (k : Int) := by omega
      have q1 : (k : Int) < (bs.length : Int) := by omega
      clear hinv hfl htl hlen hv
      have hbb : bb < wr.heap.size := World.block_lt_of_cell? wr _ hc
      go_wp2_with fail
      go_region_held3 (fun w' => w'.cell? ⟨w.heap.size, 0, none⟩ = some (.slice an nn cn) ∧ w'.cell? ⟨bb, oo + k, none⟩ = some (.int .u8 v))
        (first
          | exact ⟨d0, dc⟩
          | exact ⟨((Kept.refl [] w5).alloc _).cell d0 (by simp), ((Kept.refl [] w5).alloc _).cell dc (by simp)⟩
          | exact ⟨((Kept.refl [wr.heap.size] w5).setCell (.inl (by simp)) _).cell d0 (by simp; omega), ((Kept.refl [wr.heap.size] w5).setCell (.inl (by simp)) _).cell dc (by simp; omega)⟩
          | exact ⟨(((Kept.refl [] wr).alloc _).drew).cell c0 (by simp), (((Kept.refl [] wr).alloc _).drew).cell hc (by simp)⟩
          | go_keep)
        (first
          | (go_at_call 15; refine (hst.out wr.drew (hrd.kept ((Kept.refl [] wr).drew) (by simp))).mono ?_; rintro e w5 ⟨an1, nn1, cn1, al1, nl1, cl1, rfl, hrn, hgn, hol, hk5⟩; have hk5' : Kept [] wr w5 := ((Kept.refl [] wr).drew).trans hk5 (by simp); have d0 := hk5'.cell c0 (by simp); have dc := hk5'.cell hc (by simp))
          | (go_at_call 15; refine (hst.out (wr.alloc (.cells #[.slice none 0 0] 33)).drew (hrd.kept (((Kept.refl [] wr).alloc _).drew) (by simp))).mono ?_; rintro e w5 ⟨an1, nn1, cn1, al1, nl1, cl1, rfl, hrn, hgn, hol, hk5⟩; have hk5' : Kept [] wr w5 := (((Kept.refl [] wr).alloc _).drew).trans hk5 (by simp); have d0 := hk5'.cell c0 (by simp); have dc := hk5'.cell hc (by simp); have e0 : w5.cell? ⟨wr.heap.size, 0, none⟩ = some (.slice none 0 0) := hk5.cell (by simp [go_sem]) (by simp); have e1 : w5.frozen? ⟨wr.heap.size, 0, none⟩ = false := hk5.frozen (v := .slice none 0 0) (by simp [go_sem]) (by simp [go_sem]) (by simp)))
      · have k6 : Kept [] wr (w5.alloc (.cells #[.slice an1 nn1 cn1] 33)) := hk5'.alloc _
        have hkA : Kept [] w5 (w5.alloc (.cells #[.slice an1 nn1 cn1] 33)) := (Kept.refl _ _).alloc _
        have n0 : (w5.alloc (.cells #[.slice an1 nn1 cn1] 33)).cell? ⟨w5.heap.size, 0, none⟩ = some (.slice an1 nn1 cn1) := by simp [go_sem]
        have hrn6 := hrn.kept hkA (by simp)
        have hgn6 : ∀ g ∈ blk an1, wr.heap.size ≤ g := fun g hg => (hgn g hg).1
        have hgn6' : ∀ g ∈ blk an1, g < (w5.alloc (.cells #[.slice an1 nn1 cn1] 33)).heap.size := fun g hg => by have := (hgn g hg).2; simp; omega
        have hol6 := (hol.kept hkA (by simp)).base (base' := wr.heap.size) (Nat.le_refl _)
        generalize w5.alloc (.cells #[.slice an1 nn1 cn1] 33) = w6 at *
        have cB := k6.cell c0 (by simp)
        have fB := k6.frozen c0 f0 (by simp)
        have s6 := k6.size
        have hlen1 := hol6.len
        rw [ints_len] at hlen1
        have hsr := stepR_len (feedP [] (bs.take k)) v
        have hnl1 : nl1 ≤ 2 := by omega
        clear hlen1 hsr
        have hk7 : Kept [w.heap.size] wr (w6.setCell ⟨w.heap.size, 0, none⟩ (.slice an1 nn1 cn1)) := (k6.mono (by simp)).setCell (.inl (by simp)) _
        have hkS : Kept [w.heap.size] w6 (w6.setCell ⟨w.heap.size, 0, none⟩ (.slice an1 nn1 cn1)) := (Kept.refl _ _).setCell (.inl (by simp)) _
        have ho7 := ho.kept hk7 (fun g hg => by have := hgl g hg; simp; omega)
        have hr7 := hol6.rd.kept hkS (fun g hg => by have := (hol6.ge g hg).1; simp; omega)
        have cB7 : (w6.setCell ⟨w.heap.size, 0, none⟩ (.slice an1 nn1 cn1)).cell? ⟨w.heap.size, 0, none⟩ = some (.slice an1 nn1 cn1) := World.cell?_setCell_same _ _ _ cB
        have fB7 : (w6.setCell ⟨w.heap.size, 0, none⟩ (.slice an1 nn1 cn1)).frozen? ⟨w.heap.size, 0, none⟩ = false := (World.frozen?_setCell _ _ _ _).trans fB
        have hrd7 := hrn6.kept hkS (fun g hg => by have := hgn6 g hg; simp; omega)
        have c17 := hk7.cell c1 (by simp)
        have f17 := hk7.frozen c1 f1 (by simp)
        have hst' := hst
        clear hst
        go_wp2_with (at_builtin; refine wpList_app ?_ rfl elRune rfl rfl ho7 rfl hr7 (ints_one _ _) ?o2 ?o3; intro a8 c8 w8 ho8 hk8 hat8)
        go_roundw
        case rel =>
          have hgl' : ∀ g ∈ blk al, g ≠ w.heap.size ∧ g ≠ w.heap.size + 1 := fun g hg => by have := hgl g hg; omega
          refine ⟨k + 1, an1, nn1, cn1, a8, _, c8, by omega, by go_num, rfl, ?_⟩
          rw [hts.out, feedP_snoc, feedR_snoc]
          refine ⟨by rw [← ints_append]; exact ho8, hk8.cell cB7 (fun h => (hgl' _ h).1 rfl), hk8.frozen cB7 fB7 (fun h => (hgl' _ h).1 rfl), hk8.cell c17 (fun h => (hgl' _ h).2 rfl), hk8.frozen c17 f17 (fun h => (hgl' _ h).2 rfl),
            hrd7.kept hk8 (fun g hg h => by have := hgn6 g hg; have := (ho.ge g h).2; omega), fun g hg => ⟨by have := hgn6 g hg; omega, by have := hgn6' g hg; have := hk8.size; simp at this; omega⟩, fun g hg => ?_, ?_, by have := hk8.size; simp at this; omega⟩
          · rcases hat8 g hg with h | h
            · exact hgl g h
            · simp at h; omega
          · exact ((hkk.trans hk7 (by simp)).trans hk8 (fun x hx => .inr (by have := hgl x hx; omega)))
        case measure => simp [intOf]; omega
        case o2 => omega
        case o3 => simp; omega
      · have k6 : Kept [] wr (w5.setCell ⟨wr.heap.size, 0, none⟩ (.slice an1 nn1 cn1)) := hk5'.setCell (.inr (Nat.le_refl _)) _
        have hkA : Kept [wr.heap.size] w5 (w5.setCell ⟨wr.heap.size, 0, none⟩ (.slice an1 nn1 cn1)) := (Kept.refl _ _).setCell (.inl (by simp)) _
        have n0 : (w5.setCell ⟨wr.heap.size, 0, none⟩ (.slice an1 nn1 cn1)).cell? ⟨wr.heap.size, 0, none⟩ = some (.slice an1 nn1 cn1) := World.cell?_setCell_same _ _ _ e0
        have hrn6 := hrn.kept hkA (fun g hg => by have := (hgn g hg).1; simp at this; simp; omega)
        have hgn6 : ∀ g ∈ blk an1, wr.heap.size ≤ g := fun g hg => by have := (hgn g hg).1; simp at this; omega
        have hgn6' : ∀ g ∈ blk an1, g < (w5.setCell ⟨wr.heap.size, 0, none⟩ (.slice an1 nn1 cn1)).heap.size := fun g hg => by have := (hgn g hg).2; simp; omega
        have hol6 := (hol.kept hkA (fun g hg => by have := (hol.ge g hg).1; simp at this; simp; omega)).base (base' := wr.heap.size) (by simp)
        generalize w5.setCell ⟨wr.heap.size, 0, none⟩ (.slice an1 nn1 cn1) = w6 at *
        have cB := k6.cell c0 (by simp)
        have fB := k6.frozen c0 f0 (by simp)
        have s6 := k6.size
        have hlen1 := hol6.len
        rw [ints_len] at hlen1
        have hsr := stepR_len (feedP [] (bs.take k)) v
        have hnl1 : nl1 ≤ 2 := by omega
        clear hlen1 hsr
        have hk7 : Kept [w.heap.size] wr (w6.setCell ⟨w.heap.size, 0, none⟩ (.slice an1 nn1 cn1)) := (k6.mono (by simp)).setCell (.inl (by simp)) _
        have hkS : Kept [w.heap.size] w6 (w6.setCell ⟨w.heap.size, 0, none⟩ (.slice an1 nn1 cn1)) := (Kept.refl _ _).setCell (.inl (by simp)) _
        have ho7 := ho.kept hk7 (fun g hg => by have := hgl g hg; simp; omega)
        have hr7 := hol6.rd.kept hkS (fun g hg => by have := (hol6.ge g hg).1; simp; omega)
        have cB7 : (w6.setCell ⟨w.heap.size, 0, none⟩ (.slice an1 nn1 cn1)).cell? ⟨w.heap.size, 0, none⟩ = some (.slice an1 nn1 cn1) := World.cell?_setCell_same _ _ _ cB
        have fB7 : (w6.setCell ⟨w.heap.size, 0, none⟩ (.slice an1 nn1 cn1)).frozen? ⟨w.heap.size, 0, none⟩ = false := (World.frozen?_setCell _ _ _ _).trans fB
        have hrd7 := hrn6.kept hkS (fun g hg => by have := hgn6 g hg; simp; omega)
        have c17 := hk7.cell c1 (by simp)
        have f17 := hk7.frozen c1 f1 (by simp)
        have hst' := hst
        clear hst
        go_wp2_with (at_builtin; refine wpList_app ?_ rfl elRune rfl rfl ho7 rfl hr7 (ints_one _ _) ?o2 ?o3; intro a8 c8 w8 ho8 hk8 hat8)
        go_roundw
        case rel =>
          have hgl' : ∀ g ∈ blk al, g ≠ w.heap.size ∧ g ≠ w.heap.size + 1 := fun g hg => by have := hgl g hg; omega
          refine ⟨k + 1, an1, nn1, cn1, a8, _, c8, by omega, by go_num, rfl, ?_⟩
          rw [hts.out, feedP_snoc, feedR_snoc]
          refine ⟨by rw [← ints_append]; exact ho8, hk8.cell cB7 (fun h => (hgl' _ h).1 rfl), hk8.frozen cB7 fB7 (fun h => (hgl' _ h).1 rfl), hk8.cell c17 (fun h => (hgl' _ h).2 rfl), hk8.frozen c17 f17 (fun h => (hgl' _ h).2 rfl),
            hrd7.kept hk8 (fun g hg h => by have := hgn6 g hg; have := (ho.ge g h).2; omega), fun g hg => ⟨by have := hgn6 g hg; omega, by have := hgn6' g hg; have := hk8.size; simp at this; omega⟩, fun g hg => ?_, ?_, by have := hk8.size; simp at this; omega⟩
          · rcases hat8 g hg with h | h
            · exact hgl g h
            · simp at h; omega
          · exact ((hkk.trans hk7 (by simp)).trans hk8 (fun x hx => .inr (by have := hgl x hx; omega)))
        case measure => simp [intOf]; omega
        case o2 => omega
        case o3 => simp; omega
    · obtain rfl : k = bs.length := by omega
      rw [List.take_length] at hrd ho
      have hat := hide hgl
      have ho' := hide ho
      have hrd' := hide hrd
      have hsz' : w.heap.size + 1 < wr.heap.size := by omega
      clear ho hrd
      go_wp2_with fail
      have hkS : Kept [w.heap.size + 1] wr (wr.setCell ⟨w.heap.size + 1, 0, none⟩ (.slice an nn cn)) := (Kept.refl _ _).setCell (.inl (by simp)) _
      refine bodyPost_ret (v := .tuple #[.agg #[.slice an nn cn], .slice al nl cl]) (by simp [results, Try.results26, go_sem, c1]) rfl ?_
      exact ⟨an, nn, cn, al, nl, cl, rfl, hrd'.out.kept hkS (fun g hg => by have := (hga g hg).1; simp; omega), fun g hg => ⟨by have := (hga g hg).1; omega, by have := (hga g hg).2; simp; omega⟩, ho'.out.kept hkS (fun g hg => by have := hat.out g hg; simp; omega), hkk.setCell (.inr (by simp)) _⟩

set_option maxHeartbeats 400000 in
theorem rFeed_none (ab : Option Addr) (cb : Nat) (w : World) :
    Calls Try.prog 26 #[.agg #[.slice none 0 0], .slice ab 0 cb] w (RStepRet [] [] w) := by
  go_enter Try.func26, Try.ntmps26
  go_wp2_with fail
  refine wp_loop_rounds 1 ?_
  rw [rounds_succ]
  go_wp2_with fail
  refine bodyPost_ret (v := .tuple #[.agg #[.slice none 0 0], .slice none 0 0]) (by simp [results, Try.results26, go_sem]) rfl ?_
  exact ⟨none, 0, 0, none, 0, 0, rfl, Rd.nil _ _ _, by simp [blk], Own.nil _ _ _ _, ((Kept.refl _ _).alloc _).alloc _⟩

theorem rFeed_any (ab : Option Addr) (nb cb : Nat) (bs : List Int) (w : World) (hbs : ∀ x ∈ bs, 0 ≤ x ∧ x ≤ 255) (hr : Rd w ab nb 1 (ints .u8 bs)) (hn : bs.length ≤ 100000) :
    Calls Try.prog 26 #[.agg #[.slice none 0 0], .slice ab nb cb] w (RStepRet (feedP [] bs) (feedR [] bs) w) := by
  have hl : nb = bs.length := by have := hr.1; rw [ints_len] at this; omega
  subst hl
  rcases hr.2 with h0 | ⟨bb, oo, rfl, hc⟩
  · have : bs = [] := by simpa [ints] using h0
    subst this
    exact rFeed_none ab cb w
  · exact rFeed_some bb oo cb bs w hbs hc hn

set_option maxHeartbeats 400000 in
theorem rDecode_any (ab : Option Addr) (nb cb : Nat) (bs : List Int) (w : World) (hbs : ∀ x ∈ bs, 0 ≤ x ∧ x ≤ 255) (hr : Rd w ab nb 1 (ints .u8 bs)) (hn : bs.length ≤ 100000) :
    Calls Try.prog 12 #[.slice ab nb cb] w (SliceRet 21 .i32 w.heap.size [] w none (decI bs)) := by
  have h1 := hide (rFeed_any ab nb cb bs w hbs hr hn)
  have hfl := feedR_len bs []
  have hpe : endR (feedP [] bs) = if feedP [] bs = [] then [] else [65533] := rfl
  have hdd := hide (show decI bs = feedR [] bs ++ endR (feedP [] bs) from rfl)
  by_cases hp : feedP [] bs = []
  · rw [if_pos hp] at hpe
    have hpe' := hide hpe
    have hp' := hide hp
    clear hpe hp
    go_enter Try.func12, Try.ntmps12
    go_wp2_with fail
    refine h1.out.mono ?_
    rintro e w1 ⟨a1, n1, c1, a2, n2, c2, rfl, hr1, hg1, ho1, hk1⟩
    have hn1 : n1 = 0 := by have := hr1.1; rw [ints_len, hp'.out] at this; simp at this; omega
    subst hn1
    go_wp2_with fail
    go_ret
    exact ⟨a2, n2, c2, rfl, by rw [hdd.out, hpe'.out, List.append_nil]; exact ho1.alloc _, hk1.alloc _, fun g hg => .inr (ho1.ge g hg).1⟩
  · rw [if_neg hp] at hpe
    have hpe' := hide hpe
    have hp' : 0 < (feedP [] bs).length := List.length_pos_iff.2 hp
    clear hpe hp
    go_enter Try.func12, Try.ntmps12
    go_wp2_with fail
    refine h1.out.mono ?_
    rintro e w1 ⟨a1, n1, c1, a2, n2, c2, rfl, hr1, hg1, ho1, hk1⟩
    have hn1 : 0 < (n1 : Int) := by have := hr1.1; rw [ints_len] at this; omega
    have hn2 : n2 ≤ 200000 := by have := ho1.len; rw [ints_len] at this; omega
    have hs1 := hk1.size
    go_wp2_with (at_builtin; refine wpList_app ?_ rfl elRune rfl rfl ((ho1.alloc _).alloc _) rfl (Rd.block (cur := #[.int .i32 65533]) (heap_alloc2_new w1 _ _) rfl) ?o1 ?o2 ?o3; intro a' c' w2 ho2 hk2 hat2)
    go_ret
    refine ⟨a', _, c', rfl, by rw [hdd.out, hpe'.out, ← ints_snoc]; exact ho2, ((hk1.alloc _).alloc _).trans hk2 (fun x hx => .inr (by have := (ho1.ge x hx).1; omega)), fun g hg => ?_⟩
    · rcases hat2 g hg with h | h
      · exact .inr (ho1.ge g h).1
      · right; simp at h; omega
    case o1 => simp [Value.oneCell']
    case o2 => omega
    case o3 => simp; omega
end Go.Proofs.Ytjcoeapopkkcbaa
