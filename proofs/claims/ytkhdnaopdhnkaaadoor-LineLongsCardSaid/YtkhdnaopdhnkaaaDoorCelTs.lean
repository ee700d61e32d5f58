/- cell.Texts, the reference's Texts. -/
import Derived.Test.YtkhdnaopdhnkaaaDoorCelBld
import Derived.Test.YtkhdnaopdhnkaaaDoorCelRt
import Derived.Test.YtkhdnaopdhnkaaaDoorCelSl
namespace Go.Proofs.YtkhdnaopdhnkaaaDoor
open Go.RowKit
set_option linter.unusedVariables false
set_option maxRecDepth 100000

/-- A builder stays one while other blocks turn. -/
theorem isBuilder_kept {T e : TypeId} {B b : Nat} {p : Value} {bs : List Value} {w w' : World} (h : Lib.BuilderAt T e B b p bs w) (hk : Kept [] w w') : Lib.BuilderAt T e B b p bs w' := by
  obtain ⟨hB, v, hb, ho, hne⟩ := h
  refine ⟨hB, v, hk.heap hb (by simp), ?_, hne⟩
  obtain ⟨a, c, rfl⟩ : ∃ a c, v = .slice a bs.length c := by
    rcases ho.2 with ⟨hv, h0⟩ | ⟨g, cap, cur, hv, _⟩
    · exact ⟨none, 0, by rw [hv, h0]⟩
    · exact ⟨_, _, hv⟩
  exact Own.kept (a := a) (n := bs.length) (c := c) ho hk (by simp)
theorem isB_kept {T e : TypeId} {B b : Nat} {bs : List Value} {w w' : World} (h : Lib.IsBuilder T e B b bs w) (hk : Kept [] w w') : Lib.IsBuilder T e B b bs w' :=
  h.imp (fun h => isBuilder_kept h hk) (fun h => isBuilder_kept h hk)
theorem textC_size (c : Cl) : (textC c).size ≤ 16 := by
  unfold textC
  split
  · decide
  · split
    · decide
    · have h := runesBytes_size_le (textL c)
      have h2 := runesTo_len c 3
      have h3 : (textL c).length ≤ 4 := h2
      omega
theorem textsC_snoc (l : List Cl) (x : Cl) : textsC (l ++ [x]) = textsC l ++ (textC x).data.toList := by simp [textsC]
theorem textsC_len (l : List Cl) : (textsC l).length ≤ 16 * l.length := by
  induction l with
  | nil => simp [textsC]
  | cons c l ih =>
    have h := textC_size c
    have e : textsC (c :: l) = (textC c).data.toList ++ textsC l := by simp [textsC]
    rw [e, List.length_append, Array.length_toList, List.length_cons]
    have : (textC c).data.size = (textC c).size := rfl
    omega
def textsB (l : List Cl) : ByteArray := ⟨(textsC l).toArray⟩
theorem textsB_snoc (l : List Cl) (x : Cl) : textsB (l ++ [x]) = textsB l ++ textC x := by
  have h := ByteArray.mk_append_mk (textsC l) (textC x).data.toList
  unfold textsB
  rw [textsC_snoc, ← h, Array.toArray_toList]
theorem textsB_size (l : List Cl) : (textsB l).size ≤ 16 * l.length := by
  have := textsC_len l
  unfold textsB
  rw [ByteArray.size_mk', List.size_toArray]
  exact this

set_option maxHeartbeats 1000000 in
theorem rTexts_any (a : Option Addr) (n c : Nat) (l : List Cl) (w : World) (hr : Rd w a n 16 (cellsV l)) (hn : n ≤ 1000) :
    Calls Tryd.prog 46 #[.slice a n c] w fun e w' => e = .returned (.string (textsB l)) ∧ Kept [] w w' := by
  have hl := hide hr.clen
  have hH := hide hr
  clear hr
  go_enter Tryd.func46, Tryd.ntmps46
  go_wp2_with fail
  go_loopg [3, 4, 5, 6, 7, 8, 9, 10, 11, 12, 13, 14, 15, 16, 17] n (fun kx s3 s4 s5 s6 s7 s8 s9 s10 s11 s12 s13 s14 s15 s16 s17 wr => ∃ (k : Nat), s4 = .int .i64 k ∧ s3 = .string (textsB (l.take k)) ∧ k ≤ n ∧ n - k ≤ kx ∧ Kept [] w wr)
  case atStart => exact ⟨0, rfl, rfl, Nat.zero_le _, by omega, Kept.refl _ _⟩
  case round =>
    obtain ⟨k, rfl, rfl, hk, hg, hkr⟩ := hrel
    by_cases hlt : k < n
    · have hkl : k < l.length := by rw [hl.out]; exact hlt
      obtain ⟨b, o, rfl⟩ := hH.out.addr (fun h => by rw [h] at hkl; cases hkl)
      have r1 := (hH.out.cel k hkl).kept hkr (by simp)
      have hkn : (k : Int) < (n : Int) := by omega
      have hs1 := textsB_size (l.take k)
      rw [List.length_take] at hs1
      have hnx := hide (show textsB (l.take (k + 1)) = textsB (l.take k) ++ textC l[k] by rw [List.take_succ_eq_append_getElem hkl, textsB_snoc])
      have hT := hide (fun w1 => rText_any l[k] w1)
      have hs2 := textC_size l[k]
      generalize l[k] = x at *
      generalize textsB (l.take k) = acc at *
      generalize textC x = t at *
      have hcat := fun w => run_string_add_sum (P := Tryd.prog) w acc t (by omega)
      have hs1 := hide hs1
      have hs2 := hide hs2
      go_wp2_with (refine wpList_load_cel rfl rfl b (o + k * 16) rfl r1 ?_)
      refine (hT.out _).mono ?_
      rintro e w3 ⟨rfl, hk3⟩
      go_wp2_with fail
      go_roundg (n - (k + 1))
      case measure => omega
      case rel => exact ⟨k + 1, by push_cast; rfl, by rw [hnx.out], by omega, Nat.le_refl _, hkr.trans hk3 (by simp)⟩
    · obtain rfl : k = n := by omega
      go_wp2_with fail
      go_ret
      exact ⟨by rw [List.take_of_length_le (Nat.le_of_eq hl.out)]; rfl, hkr⟩

set_option maxHeartbeats 1000000 in
theorem Texts_any (a : Option Addr) (n c : Nat) (l : List Cl) (w : World) (hr : Rd w a n 16 (cellsV l)) (hn : n ≤ 1000) :
    Calls Tryd.prog 45 #[.slice a n c] w fun e w' => e = .returned (.string (textsB l)) ∧ Kept [] w w' := by
  have hl := hide hr.clen
  have hH := hide hr
  clear hr
  have hB0 := hide (Lib.fresh_isBuilder 77 5 w)
  go_enter Tryd.func45, Tryd.ntmps45
  go_wp2_with fail
  go_loopg [5, 8, 9, 10, 11, 12, 13, 14, 15] n (fun kx s5 s8 s9 s10 s11 s12 s13 s14 s15 wr => ∃ (k : Nat), s8 = .int .i64 k ∧ k ≤ n ∧ n - k ≤ kx ∧ Hid (Lib.IsBuilder 77 5 w.heap.size w.heap.size (Lib.byteCells (textsC (l.take k))) wr) ∧ Hid (Below w.heap.size w wr))
  case atStart => exact ⟨0, rfl, Nat.zero_le _, by omega, hB0, hide ((Below.refl _ w).alloc (Nat.le_refl _) _)⟩
  case round =>
    obtain ⟨k, rfl, hk, hg, hI, hbw⟩ := hrel
    have hkr : Kept [] w wr := Kept.of_below hbw.out []
    by_cases hlt : k < n
    · have hkl : k < l.length := by rw [hl.out]; exact hlt
      obtain ⟨b, o, rfl⟩ := hH.out.addr (fun h => by rw [h] at hkl; cases hkl)
      have r1 := (hH.out.cel k hkl).kept hkr (by simp)
      have hkn : (k : Int) < (n : Int) := by omega
      have hs1 := textsC_len (l.take k)
      rw [List.length_take] at hs1
      have hnx := hide (show textsC (l.take (k + 1)) = textsC (l.take k) ++ (textC l[k]).data.toList by rw [List.take_succ_eq_append_getElem hkl, textsC_snoc])
      have hT := hide (fun w1 => Text_any l[k] w1)
      have hs2 := textC_size l[k]
      generalize l[k] = x at *
      generalize textsC (l.take k) = acc at *
      generalize textC x = t at *
      have hs1 := hide hs1
      have hs2 := hide hs2
      have hcz : CelIn (wr.alloc (.cells #[.int .i32 0, .int .i32 0, .int .i32 0, .int .i32 0, .int .i64 0, .int .i64 0, .int .u8 0, .int .u8 0, .int .u8 0, .int .u8 0, .int .i64 0, .int .u8 0, .int .u8 0, .int .u8 0, .int .u8 0, .int .u8 0] 60)) wr.heap.size zeroK := heap_alloc_new wr _
      go_upto_region 5 with (first | refine wpList_load_cel rfl rfl b (o + k * 16) rfl r1 ?_ | (refine wpList_store_cel rfl rfl rfl wr.heap.size rfl hcz x rfl ?_; intro W2 hx2' hk2'))
      have hkw : Kept [] wr W2 := ((Kept.refl [] wr).alloc _).trans hk2' (by intro z hz; simp at hz; omega)
      have rx := hx2'.range
      clear hcz hk2' r1
      go_wp2_with (refine wpList_load_cel rfl rfl wr.heap.size 0 rfl rx ?_)
      refine (hT.out _).mono ?_
      rintro e w3 ⟨rfl, hk3⟩
      have hk3' := hkw.trans hk3 (by simp)
      have hI3 := isB_kept hI.out hk3'
      go_wp2_with fail
      have hsz : w.heap.size ≤ w3.heap.size := Nat.le_trans hkr.size hk3'.size
      refine (WriteString_any w.heap.size w.heap.size _ t w3 hI3 (by rw [Lib.byteCells_length]; have := hs1.out; have := hs2.out; omega) hsz).mono ?_
      rintro e w4 ⟨rfl, hI4, hb4⟩
      go_wp2_with fail
      go_roundg (n - (k + 1))
      case measure => omega
      case rel => exact ⟨k + 1, by push_cast; rfl, by omega, Nat.le_refl _, hide (by rw [hnx.out, Lib.byteCells_append]; exact Or.inr hI4), hide ((hbw.out.trans ((hk3'.below (by simp)).mono hkr.size)).trans hb4)⟩
    · obtain rfl : k = n := by omega
      have hI' := hI.out
      rw [List.take_of_length_le (Nat.le_of_eq hl.out)] at hI'
      have hI' := hide hI'
      go_wp2_with fail
      refine (String_any w.heap.size w.heap.size _ _ hI'.out hkr.size).mono ?_
      rintro e w4 ⟨rfl, hb4⟩
      go_wp2_with fail
      go_ret
      exact ⟨rfl, Kept.of_below (hbw.out.trans hb4) []⟩
end Go.Proofs.YtkhdnaopdhnkaaaDoor
