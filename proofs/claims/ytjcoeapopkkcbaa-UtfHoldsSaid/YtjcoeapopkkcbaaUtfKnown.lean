/- Layer 1: the examples of the chapter. -/
import Derived.Test.YtjcoeapopkkcbaaUtfRFeed
namespace Go.Proofs.Ytjcoeapopkkcbaa
open Go.RowKit
set_option linter.unusedVariables false

set_option maxHeartbeats 400000 in
theorem decodes_any (S : ByteArray) (a : Option Addr) (n c : Nat) (l : List Int) (w : World) (hS : S.size ≤ 1000) (hr : Rd w a n 1 (ints .i32 l)) :
    Calls Try.prog 23 #[.string S, .slice a n c] w (BoolKept (decide (decI (bytesL S) = l)) w) := by
  obtain ⟨cc, w1, hrun, hr1, hk1, hs1⟩ := run_string_bytes (P := Try.prog) w 9 22 5 S Try.underlying9 Try.underlying22 Try.underlying5
  have hl := bytesL_len S
  have hb := bytesL_byte S
  have hdl := decI_len (bytesL S)
  have hD := hide (Decode_any _ _ cc (bytesL S) w1 hb hr1 (by omega))
  clear hb
  go_enter Try.func23, Try.ntmps23
  go_wp2_with fail
  refine hD.out.mono ?_
  rintro e w2 ⟨a2, n2, c2, rfl, ho2, hk2, hat2⟩
  go_wp2_with fail
  refine (Same_any _ _ _ _ _ _ _ _ w2 ho2.rd ((hr.kept hk1 (by simp)).kept hk2 (by simp)) (by omega)).mono ?_
  rintro e w3 ⟨rfl, hk3⟩
  go_wp2_with fail
  go_ret
  exact ⟨rfl, (hk1.trans hk2 (by simp)).trans hk3 (by simp)⟩

theorem conv_bytes (w : World) (a : Option Addr) (n c : Nat) (l : List Int) (hr : Rd w a n 1 (ints .u8 l)) : (convert 22 9 (.slice a n c)).run Try.prog w = .ok (.string (strOfNums l)) w :=
  run_bytes_string w 22 5 9 Try.underlying22 Try.underlying5 Try.underlying9 a n c l hr

theorem decodes_true (S : ByteArray) (a : Option Addr) (n c : Nat) (l : List Int) (w : World) (hS : S.size ≤ 1000) (hr : Rd w a n 1 (ints .i32 l)) (h : decI (bytesL S) = l) :
    Calls Try.prog 23 #[.string S, .slice a n c] w (BoolKept true w) := by
  have := decodes_any S a n c l w hS hr
  rw [decide_eq_true h] at this
  exact this

set_option maxHeartbeats 400000 in
theorem encodes_true (S : ByteArray) (a : Option Addr) (n c : Nat) (l : List Int) (w : World) (hl : ∀ x ∈ l, -2147483648 ≤ x ∧ x ≤ 2147483647) (hn : l.length ≤ 1000) (hr : Rd w a n 1 (ints .i32 l)) (h : strOfNums (encI l) = S) :
    Calls Try.prog 24 #[.string S, .slice a n c] w (BoolKept true w) := by
  have hE := hide (Encode_any a n c l w hl hr (by omega))
  have h' := hide h
  clear h
  go_enter Try.func24, Try.ntmps24
  go_wp2_with fail
  refine hE.out.mono ?_
  rintro e w2 ⟨a2, n2, c2, rfl, ho2, hk2, hat2⟩
  have hcv := conv_bytes w2 a2 n2 c2 _ ho2.rd
  rw [h'.out] at hcv
  go_wp2_with fail
  go_ret
  exact ⟨ret_bool (by simp), hk2⟩

theorem rd_new (w : World) (cur : Array Value) (E : TypeId) (l : List Int) (k : IntKind) (n : Nat) (h : cur.toList = ints k l) (hn : cur.size = n) : Rd (w.alloc (.cells cur E)) (some ⟨w.heap.size, 0, none⟩) n 1 (ints k l) := by
  rw [← h]
  exact Rd.block (heap_alloc_new w _) hn

theorem stepR_of {p r : List Int} {c : Int} (h : stepR p c = r) : stepR p c = r := h

set_option maxHeartbeats 4000000 in
theorem known_any (w : World) : Calls Try.prog 9 #[] w (BoolKept true w) := by
  go_enter Try.func9, Try.ntmps9
  go_wp2_with fail
  refine (decodes_true _ _ _ _ [97, 233, 8364, 128512] _ (by decide) (rd_new w _ _ _ _ _ rfl rfl) (by decide)).mono ?_
  rintro e w1 ⟨rfl, hk1⟩
  have K1 : Kept [] w w1 := ((Kept.refl [] w).alloc _).trans hk1 (by simp)
  go_wp2_with fail
  refine (encodes_true _ _ _ _ [97, 233, 8364, 128512] _ (by decide) (by decide) (rd_new w1 _ _ _ _ _ rfl rfl) (by decide)).mono ?_
  rintro e w2 ⟨rfl, hk2⟩
  have K2 : Kept [] w w2 := (K1.alloc _).trans hk2 (by simp)
  go_wp2_with fail
  refine (decodes_true _ _ _ _ [65533, 65] _ (by decide) (rd_new w2 _ _ _ _ _ rfl rfl) (by decide)).mono ?_
  rintro e w3 ⟨rfl, hk3⟩
  have K3 : Kept [] w w3 := (K2.alloc _).trans hk3 (by simp)
  go_wp2_with fail
  refine (decodes_true _ _ _ _ [65533, 65533] _ (by decide) (rd_new w3 _ _ _ _ _ rfl rfl) (by decide)).mono ?_
  rintro e w4 ⟨rfl, hk4⟩
  have K4 : Kept [] w w4 := (K3.alloc _).trans hk4 (by simp)
  go_wp2_with fail
  refine (decodes_true _ _ _ _ [65533, 65533, 65533] _ (by decide) (rd_new w4 _ _ _ _ _ rfl rfl) (by decide)).mono ?_
  rintro e w5 ⟨rfl, hk5⟩
  have K5 : Kept [] w w5 := (K4.alloc _).trans hk5 (by simp)
  go_wp2_with fail
  refine (decodes_true _ _ _ _ [65533, 65533, 65533, 65533] _ (by decide) (rd_new w5 _ _ _ _ _ rfl rfl) (by decide)).mono ?_
  rintro e w6 ⟨rfl, hk6⟩
  have K6 : Kept [] w w6 := (K5.alloc _).trans hk6 (by simp)
  go_wp2_with fail
  refine (decodes_true _ _ _ _ [65533] _ (by decide) (rd_new w6 _ _ _ _ _ rfl rfl) (by decide)).mono ?_
  rintro e w7 ⟨rfl, hk7⟩
  have K7 : Kept [] w w7 := (K6.alloc _).trans hk7 (by simp)
  go_wp2_with fail
  have s7 := K7.size
  refine (Feed_any w7.heap.size 0 [] _ 2 _ [240, 159] _ ((Dec.new w7 _).kept ((Kept.refl [] _).alloc _) (by simp)) True.intro (by decide) (Rd.block (cur := #[.int .u8 240, .int .u8 159]) (heap_alloc2_new w7 _ _) rfl) (by simp [blk]) (by decide)).mono ?_
  rintro e w8 ⟨⟨a8, n8, c8, rfl, ho8, hk8, hat8⟩, hd8, hw8⟩
  have e8 : feedR [] [240, 159] = [] := by decide
  have p8 : feedP [] [240, 159] = [240, 159] := by decide
  rw [e8] at ho8
  rw [p8] at hd8
  have n8z : n8 = 0 := by have := ho8.len; simp [ints] at this; omega
  subst n8z
  have K8 : Kept [] w w8 := ((K7.alloc _).alloc _).trans hk8 (fun x hx => .inr (by simp [blk] at hx; omega))
  clear e8 p8 hw8
  go_wp2_with fail
  refine (Pending_any _ _ [240, 159] w8 hd8 (by decide)).mono ?_
  rintro e w9 ⟨a9, n9, c9, rfl, ho9, hk9, hat9⟩
  have hcv9 := conv_bytes w9 a9 n9 c9 _ ho9.rd
  rw [show strOfNums [240, 159] = (⟨#[240, 159]⟩ : ByteArray) from rfl] at hcv9
  have hd9 := hd8.kept hk9 (by simp)
  have K9 : Kept [] w w9 := K8.trans hk9 (by simp)
  go_wp2_with fail
  refine (Step_any _ _ [240, 159] 152 w9 hd9 (by simp [Inv, loI, hiI]) (by decide)).mono ?_
  rintro e w10 ⟨⟨a10, n10, c10, rfl, ho10, hk10, hat10⟩, hd10, hw10⟩
  have e10 : stepR [240, 159] 152 = [] := by decide
  have p10 : stepP [240, 159] 152 = [240, 159, 152] := by decide
  rw [e10] at ho10
  rw [p10] at hd10
  have n10z : n10 = 0 := by have := ho10.len; simp [ints] at this; omega
  subst n10z
  have K10 : Kept [] w w10 := K9.trans hk10 (fun x hx => .inr (by simp [blk] at hx; omega))
  clear e10 p10 hw10
  go_wp2_with fail
  refine (Step_any _ _ [240, 159, 152] 195 w10 hd10 (by simp [Inv, loI, hiI]) (by decide)).mono ?_
  rintro e w11 ⟨⟨a11, n11, c11, rfl, ho11, hk11, hat11⟩, hd11, hw11⟩
  have e11 : stepR [240, 159, 152] 195 = [65533] := by decide
  have p11 : stepP [240, 159, 152] 195 = [195] := by decide
  rw [e11] at ho11
  rw [p11] at hd11
  have K11 : Kept [] w w11 := K10.trans hk11 (fun x hx => .inr (by simp [blk] at hx; omega))
  clear e11 p11 hw11
  go_wp2_with fail
  refine (Same_any _ _ _ _ _ _ [65533] [65533] _ (ho11.alloc _).rd (rd_new w11 _ _ _ _ _ rfl rfl) (by decide)).mono ?_
  rintro e w12 ⟨rfl, hk12⟩
  have hd12 := (hd11.kept ((Kept.refl [] _).alloc _) (by simp)).kept hk12 (by simp)
  have K12 : Kept [] w w12 := (K11.alloc _).trans hk12 (by simp)
  go_wp2_with fail
  refine (Pending_any _ _ [195] w12 hd12 (by decide)).mono ?_
  rintro e w13 ⟨a13, n13, c13, rfl, ho13, hk13, hat13⟩
  have hcv13 := conv_bytes w13 a13 n13 c13 _ ho13.rd
  rw [show strOfNums [195] = (⟨#[195]⟩ : ByteArray) from rfl] at hcv13
  have hd13 := hd12.kept hk13 (by simp)
  have K13 : Kept [] w w13 := K12.trans hk13 (by simp)
  go_wp2_with fail
  refine (Step_any _ _ [195] 169 w13 hd13 (by simp [Inv]) (by decide)).mono ?_
  rintro e w14 ⟨⟨a14, n14, c14, rfl, ho14, hk14, hat14⟩, hd14, hw14⟩
  have e14 : stepR [195] 169 = [233] := by decide
  have p14 : stepP [195] 169 = [] := by decide
  rw [e14] at ho14
  rw [p14] at hd14
  have K14 : Kept [] w w14 := K13.trans hk14 (fun x hx => .inr (by simp [blk] at hx; omega))
  clear e14 p14 hw14
  go_wp2_with fail
  refine (Same_any _ _ _ _ _ _ [233] [233] _ (ho14.alloc _).rd (rd_new w14 _ _ _ _ _ rfl rfl) (by decide)).mono ?_
  rintro e w15 ⟨rfl, hk15⟩
  have hd15 := (hd14.kept ((Kept.refl [] _).alloc _) (by simp)).kept hk15 (by simp)
  have K15 : Kept [] w w15 := (K14.alloc _).trans hk15 (by simp)
  go_wp2_with fail
  refine (End_any _ _ [] w15 hd15).mono ?_
  rintro e w16 ⟨⟨a16, n16, c16, rfl, ho16, hk16, hat16⟩, hd16, hw16⟩
  have n16z : n16 = 0 := by have := ho16.len; simp [ints, endR] at this; omega
  subst n16z
  have K16 : Kept [] w w16 := K15.trans hk16 (fun x hx => .inr (by simp [blk] at hx; omega))
  clear hw16
  go_wp2_with fail
  refine (encodes_true _ _ _ _ [55296, 1114112, -1] _ (by decide) (by decide) (rd_new w16 _ _ _ _ _ rfl rfl) (by decide)).mono ?_
  rintro e w17 ⟨rfl, hk17⟩
  have K17 : Kept [] w w17 := (K16.alloc _).trans hk17 (by simp)
  go_wp2_with fail
  refine (valid_any 57343 w17 (by decide) (by decide)).mono ?_
  rintro e w18 ⟨rfl, rfl⟩
  rw [show validI 57343 = false from by decide]
  go_wp2_with fail
  refine (valid_any 57344 _ (by decide) (by decide)).mono ?_
  rintro e w19 ⟨rfl, rfl⟩
  rw [show validI 57344 = true from by decide]
  go_wp2_with fail
  refine (valid_any 1114111 _ (by decide) (by decide)).mono ?_
  rintro e w20 ⟨rfl, rfl⟩
  rw [show validI 1114111 = true from by decide]
  go_wp2_with fail
  go_ret
  exact ⟨rfl, K17⟩
end Go.Proofs.Ytjcoeapopkkcbaa
