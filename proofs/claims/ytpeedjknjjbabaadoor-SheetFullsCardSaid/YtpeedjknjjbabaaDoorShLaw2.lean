/- The law SheetFulls. -/
import Derived.Test.YtpeedjknjjbabaaDoorShNil
namespace Go.Proofs.YtpeedjknjjbabaaDoor
open Go.RowKit
set_option linter.unusedVariables false
set_option maxRecDepth 100000

/-- Where a law's walk stands: the tables, a page of the law's own, nothing that there was at its start has changed. -/
structure At (w0 w : World) (b : Nat) (s : Sh) : Prop where
  tb : Tabs w
  pn : PN (fun y => w0.heap.size ≤ y) w b s
  kp : Kept [] w0 w
section
variable {w0 w w' : World} {b : Nat} {s s' : Sh}
theorem At.keep (h : At w0 w b s) (hk : Kept [] w w') : At w0 w' b s := ⟨h.tb.kept hk, h.pn.keep hk, h.kp.trans hk (by simp)⟩
theorem At.hn (h : At w0 w b s) : ∀ y, w.heap.size ≤ y → w0.heap.size ≤ y := fun y hy => Nat.le_trans h.kp.size hy
theorem At.next (h : At w0 w b s) (h2 : 2 ≤ w0.heap.size) (hp : PN (fun y => w0.heap.size ≤ y) w' b s') (hk : KO (fun y => w0.heap.size ≤ y) w w') : At w0 w' b s' :=
  ⟨hk.tabs h.tb (by omega) (by omega), hp, hk.none h.kp (fun y hy => hy)⟩
theorem At.push (h : At w0 w b s) (h2 : 2 ≤ w0.heap.size) (a : Option Addr) (n c : Nat) (x : Ln) (hr : Rd w a n 16 (cellsV x.l)) (z : Int) (hs : pushS s x = (s', z)) :
    Calls Tryd.prog 13 #[.pointer (some ⟨b, 0, none⟩), .agg #[.slice a n c, .bool x.s]] w fun e w' => e = .returned (.int .i64 z) ∧ At w0 w' b s' :=
  (push_n h.pn h.hn h.tb a n c x hr s' z hs).mono fun e w' ⟨he, h1, h3⟩ => ⟨he, h.next h2 h1 h3⟩
theorem At.drop (h : At w0 w b s) (h2 : 2 ≤ w0.heap.size) (k z : Int) (hs : dropS s k = (s', z)) :
    Calls Tryd.prog 16 #[.pointer (some ⟨b, 0, none⟩), .int .i64 k] w fun e w' => e = .returned (.int .i64 z) ∧ At w0 w' b s' :=
  (drop_n h.pn h.hn k s' z hs).mono fun e w' ⟨he, h1, h3⟩ => ⟨he, h.next h2 h1 h3⟩
/-- A line that was made behind w1, where the page was: Pop leaves it alone. -/
theorem At.pops (h : At w0 w b s) (h2 : 2 ≤ w0.heap.size) (hk : Kept [] w w') (a2 : Option Addr) (n2 c2 : Nat) (s2 : Bool) (m : List Cl) (no : Int) (v : Bool) (hr2 : Rd w' a2 n2 16 (cellsV m)) (hd : ∀ y ∈ blk a2, w.heap.size ≤ y) (hv : (decide ((popS s).2.1.s = s2 ∧ (popS s).2.1.l = m) && decide ((popS s).2.2 = no)) = v) (hs : (popS s).1 = s') :
    Calls Tryd.prog 17 #[.pointer (some ⟨b, 0, none⟩), .agg #[.slice a2 n2 c2, .bool s2], .int .i64 no] w' fun e w' => e = .returned (.bool v) ∧ At w0 w' b s' := by
  obtain ⟨B, h1, h3⟩ := h.pn
  have hlt := PG.lt _ _ _ _ h1
  have hA := h.keep hk
  refine (pops_ask pageIs b s B a2 n2 c2 s2 m no v w' (h1.kept _ _ _ _ _ [] hk (by simp)) hr2 (fun y hy hm => by have := hd y hy; have := hlt y hm; omega) hv).mono ?_
  rintro e w9 ⟨he, B', p1, p2, p3⟩
  rw [hs] at p1
  exact ⟨he, hA.next h2 ⟨B', p1, give hA.hn h3 p3⟩ ⟨_, p2, h3⟩⟩
theorem At.gets (h : At w0 w b s) (i : Int) (a2 : Option Addr) (n2 c2 : Nat) (s2 : Bool) (m : List Cl) (no : Int) (v : Bool) (hr2 : Rd w a2 n2 16 (cellsV m)) (hv : (decide ((getS s i).1.s = s2 ∧ (getS s i).1.l = m) && decide ((getS s i).2 = no)) = v) :
    Calls Tryd.prog 20 #[.pointer (some ⟨b, 0, none⟩), .int .i64 i, .agg #[.slice a2 n2 c2, .bool s2], .int .i64 no] w fun e w' => e = .returned (.bool v) ∧ At w0 w' b s := by
  obtain ⟨B, h1, h3⟩ := h.pn
  exact (gets_ask pageIs b s B i a2 n2 c2 s2 m no v w h1 hr2 hv).mono fun e w' ⟨he, hk⟩ => ⟨he, h.keep hk⟩
theorem At.room (h : At w0 w b s) (z : Int) (hz : ((s.room : Nat) : Int) = z) : Calls Tryd.prog 15 #[.pointer (some ⟨b, 0, none⟩)] w fun e w' => e = .returned (.int .i64 z) ∧ At w0 w' b s := by
  obtain ⟨B, h1, h3⟩ := h.pn
  subst hz
  exact (pageIs.room w b s B h1).mono fun e w' ⟨he, hk⟩ => ⟨he, h.keep hk⟩
theorem At.len (h : At w0 w b s) (z : Int) (hz : ((s.ls.length : Nat) : Int) = z) : Calls Tryd.prog 18 #[.pointer (some ⟨b, 0, none⟩)] w fun e w' => e = .returned (.int .i64 z) ∧ At w0 w' b s := by
  obtain ⟨B, h1, h3⟩ := h.pn
  subst hz
  exact (pageIs.len w b s B h1).mono fun e w' ⟨he, hk⟩ => ⟨he, h.keep hk⟩
theorem At.gone (h : At w0 w b s) (z : Int) (hz : ((s.gone : Nat) : Int) = z) : Calls Tryd.prog 19 #[.pointer (some ⟨b, 0, none⟩)] w fun e w' => e = .returned (.int .i64 z) ∧ At w0 w' b s := by
  obtain ⟨B, h1, h3⟩ := h.pn
  subst hz
  exact (pageIs.gone w b s B h1).mono fun e w' ⟨he, hk⟩ => ⟨he, h.keep hk⟩
theorem At.cap (h : At w0 w b s) (z : Int) (hz : ((s.places : Nat) : Int) = z) : Calls Tryd.prog 22 #[.pointer (some ⟨b, 0, none⟩)] w fun e w' => e = .returned (.int .i64 z) ∧ At w0 w' b s := by
  obtain ⟨B, h1, h3⟩ := h.pn
  subst hz
  exact (pageIs.cap w b s B h1).mono fun e w' ⟨he, hk⟩ => ⟨he, h.keep hk⟩
end
def letter (k : Nat) : Ln := ⟨[runeC (97 + ((k % 26 : Nat) : Int))], false⟩
def Lr (lo n : Nat) : List Ln := (List.range' lo n).map letter
theorem letter_ok (k : Nat) : validL (letter k).l = true := by
  have h : ∀ q, q < 26 → validL [runeC (97 + ((q : Nat) : Int))] = true := by decide +kernel
  exact h _ (Nat.mod_lt _ (by decide))
theorem Lr_len (lo n : Nat) : (Lr lo n).length = n := by simp [Lr]
theorem Lr_succ (lo n : Nat) : Lr lo (n + 1) = Lr lo n ++ [letter (lo + n)] := by
  unfold Lr
  rw [List.range'_1_concat, List.map_append]
  rfl
theorem push_lr (P k : Nat) (h : k < P) : pushS ⟨P, 0, Lr 0 k⟩ (letter k) = (⟨P, 0, Lr 0 (k + 1)⟩, 0) := by
  have hr : ¬ (Sh.room ⟨P, 0, Lr 0 k⟩ = 0) := by show ¬ (P - 0 - (Lr 0 k).length = 0); rw [Lr_len]; omega
  unfold pushS
  rw [if_neg (by simp [letter_ok]), if_neg hr]
  simp only [Lr_succ, Nat.zero_add]
theorem full_lr (P d : Nat) (h : d ≤ P) (x : Ln) (hx : validL x.l = true) : pushS ⟨P, d, Lr d (P - d)⟩ x = (⟨P, d, Lr d (P - d)⟩, 7) := by
  have hr : Sh.room ⟨P, d, Lr d (P - d)⟩ = 0 := by show P - d - (Lr d (P - d)).length = 0; rw [Lr_len]; omega
  unfold pushS
  rw [if_neg (by simp [hx]), if_pos hr]
theorem drop_lr (P d : Nat) (h : d ≤ P) : dropS ⟨P, 0, Lr 0 P⟩ (d : Int) = (⟨P, d, Lr d (P - d)⟩, 0) := by
  unfold dropS
  rw [if_neg (by simp only [Lr_len]; omega)]
  simp only [Int.toNat_natCast, Nat.zero_add]
  congr 2
  unfold Lr
  rw [← List.map_drop, List.drop_range', Nat.mul_one, Nat.zero_add]
theorem pop_lr (P d m : Nat) : popS ⟨P, d, Lr d (m + 1)⟩ = (⟨P, d, Lr d m⟩, letter (d + m), 0) := by
  unfold popS
  rw [Lr_succ, if_neg (by simp)]
  simp
theorem get_lr (P d m : Nat) : getS ⟨P, d, Lr d (m + 1)⟩ 0 = (letter d, 0) := by
  unfold getS
  rw [if_neg (by simp only [Lr_len]; omega)]
  simp [Lr, List.range'_succ]
theorem tmod_nat (a b : Nat) : Int.tmod (a : Int) (b : Int) = ((a % b : Nat) : Int) := rfl
def kZf : Ln := ⟨[runeC 122], false⟩
set_option maxHeartbeats 20000000 in
theorem sheetFulls_any (hkn : KnownIs) (k1 k2 k3 : Int) (h1 : 0 ≤ k1 ∧ k1 ≤ 65535) (h2 : 0 ≤ k2 ∧ k2 ≤ 65535) (h3 : 0 ≤ k3 ∧ k3 ≤ 65535) (w : World) (ht : Tabs w) :
    Calls Tryd.prog 4 #[.int .u16 k1, .int .u16 k2, .int .u16 k3] w fun e w' => e = .returned (.bool true) ∧ Kept [] w w' := by
  have hkn0 := hide (fun w1 (hk : Kept [] w w1) => hkn.at (ht.kept hk))
  have hw2 := hide (tabs_lt ht)
  have ht0 := hide ht
  clear ht
  by_cases hlo : k1 < 1
  · go_enter Tryd.func4, Tryd.ntmps4
    go_wp2_with fail
    refine (hkn0.out w (Kept.refl [] w)).mono ?_
    rintro e w1 ⟨rfl, hk1⟩
    go_wp2_with fail
    go_ret
    exact ⟨rfl, hk1⟩
  · by_cases hhi : k1 > 1024
    · go_enter Tryd.func4, Tryd.ntmps4
      go_wp2_with fail
      refine (hkn0.out w (Kept.refl [] w)).mono ?_
      rintro e w1 ⟨rfl, hk1⟩
      go_wp2_with fail
      go_ret
      exact ⟨rfl, hk1⟩
    · obtain ⟨P, rfl⟩ : ∃ P : Nat, k1 = P := ⟨k1.toNat, by omega⟩
      obtain ⟨E, rfl⟩ : ∃ E : Nat, k2 = E := ⟨k2.toNat, by omega⟩
      obtain ⟨F, rfl⟩ : ∃ F : Nat, k3 = F := ⟨k3.toNat, by omega⟩
      have hP : 1 ≤ P ∧ P ≤ 1024 := by omega
      have c1 : IntKind.i64.wrap (P : Int) = (P : Int) := by rw [IntKind.wrap_i64]; omega
      have c2 : IntKind.i64.wrap (E : Int) = (E : Int) := by rw [IntKind.wrap_i64]; omega
      have c3 : IntKind.i64.wrap (F : Int) = (F : Int) := by rw [IntKind.wrap_i64]; omega
      have hpp : ∀ (b : Nat) w1, (binOp .eql 25 (.pointer (some ⟨b, 0, none⟩)) (.pointer none)).run Tryd.prog w1 = .ok (.bool false) w1 := fun b w1 => by kernel_rfl
      go_enter Tryd.func4, Tryd.ntmps4
      go_wp2_with fail
      refine (NewS_any (P : Int) w).mono ?_
      rintro e w1 ⟨hk1, hyes, _⟩
      obtain ⟨b, B, rfl, hpg, hB⟩ := hyes (by omega)
      have hA : Hid (At w w1 b ⟨P, 0, Lr 0 0⟩) := hide ⟨ht0.out.kept hk1, ⟨B, hpg, hB⟩, hk1⟩
      have hpb := hpp b
      clear hyes hpg hB hpp hk1
      go_wp2_with fail
      go_loopg [9, 32, 33, 34, 35, 36, 37, 38, 39, 40, 41, 42, 43, 44, 45] P (fun kx s9 s32 s33 s34 s35 s36 s37 s38 s39 s40 s41 s42 s43 s44 s45 wr => ∃ k : Nat, s9 = .int .i64 k ∧ k ≤ P ∧ P - k ≤ kx ∧ Hid (At w wr b ⟨P, 0, Lr 0 k⟩))
      case atStart => exact ⟨0, rfl, Nat.zero_le _, by omega, hA⟩
      case round =>
        obtain ⟨k, rfl, hk, hg, hAt⟩ := hrel
        by_cases hlt : k < P
        · have hkn : (k : Int) < (P : Int) := by omega
          have hmod : Int.tmod (k : Int) 26 = ((k % 26 : Nat) : Int) := rfl
          have hq : k % 26 < 26 := Nat.mod_lt _ (by decide)
          have hx : Hid (letter k = ⟨[runeC (97 + ((k % 26 : Nat) : Int))], false⟩) := hide rfl
          generalize k % 26 = q at *
          have c4 : IntKind.i64.wrap (97 + (q : Int)) = 97 + (q : Int) := by rw [IntKind.wrap_i64]; omega
          have c5 : IntKind.i32.wrap (97 + (q : Int)) = 97 + (q : Int) := by rw [IntKind.wrap_i32]; omega
          have c6 : IntKind.i64.wrap (q : Int) = (q : Int) := by rw [IntKind.wrap_i64]; omega
          have c7 : IntKind.i64.wrap ((k : Int) + 1) = (k : Int) + 1 := by rw [IntKind.wrap_i64]; omega
          go_wp2_with fail
          refine (text7_any (97 + (q : Int)) wr).mono ?_
          rintro e x1 ⟨a1, n1, d1, rfl, ho1, h1a, h1b, j1⟩
          have hA1 := hAt.out.keep j1
          go_wp2_with fail
          refine (hA1.push hw2.out a1 n1 d1 ⟨[runeC (97 + (q : Int))], false⟩ ho1.rd 0 (by rw [← hx.out]; exact push_lr P k hlt)).mono ?_
          rintro e x2 ⟨rfl, hA2⟩
          go_wp2_with fail
          go_roundg (P - (k + 1))
          case measure => omega
          case rel => exact ⟨k + 1, by push_cast; rfl, by omega, Nat.le_refl _, hide hA2⟩
        · obtain rfl : k = P := by omega
          have hz0 : ((((0 : Nat) : Int)) == 0) = true := by decide
          have hE : Int.tmod (E : Int) ((k : Int) + 1) = ((E % (k + 1) : Nat) : Int) := rfl
          have hd : E % (k + 1) ≤ k := by have := Nat.mod_lt E (show 0 < k + 1 by omega); omega
          have c4 : IntKind.i64.wrap ((k : Int) + 1) = (k : Int) + 1 := by rw [IntKind.wrap_i64]; omega
          have c5 : ¬ ((k : Int) + 1 = 0) := by omega
          have c6 : (((k : Int) + 1) == 0) = false := by simp; omega
          generalize hdE : E % (k + 1) = d at *
          have hF : Int.tmod (F : Int) (((k - d : Nat) : Int) + 1) = ((F % (k - d + 1) : Nat) : Int) := rfl
          have hf : F % (k - d + 1) ≤ k - d := by have := Nat.mod_lt F (show 0 < k - d + 1 by omega); omega
          generalize hdF : F % (k - d + 1) = p at *
          have e1 : (k : Int) - (d : Int) = ((k - d : Nat) : Int) := by omega
          have c7 : IntKind.i64.wrap ((k - d : Nat) : Int) = ((k - d : Nat) : Int) := by rw [IntKind.wrap_i64]; omega
          have c8 : IntKind.i64.wrap (((k - d : Nat) : Int) + 1) = ((k - d : Nat) : Int) + 1 := by rw [IntKind.wrap_i64]; omega
          have c9 : ¬ (((k - d : Nat) : Int) + 1 = 0) := by omega
          have c10 : IntKind.i64.wrap (d : Int) = (d : Int) := by rw [IntKind.wrap_i64]; omega
          have c11 : IntKind.i64.wrap (p : Int) = (p : Int) := by rw [IntKind.wrap_i64]; omega
          generalize hm : k - d = m at *
          go_wp2_with fail
          refine (text7_any 122 wr).mono ?_
          rintro e x1 ⟨a1, n1, d1, rfl, ho1, h1a, h1b, j1⟩
          have hA1 := hAt.out.keep j1
          go_wp2_with fail
          refine (hA1.push hw2.out a1 n1 d1 kZf ho1.rd 7 (full_lr k 0 (Nat.zero_le _) kZf (by decide +kernel))).mono ?_
          rintro e x2 ⟨rfl, hA2⟩
          go_wp2_with fail
          refine (hA2.room 0 (by unfold Sh.room; simp only [Lr_len]; omega)).mono ?_
          rintro e x3 ⟨rfl, hA3⟩
          go_wp2_with fail
          refine (hA3.drop hw2.out (d : Int) 0 (drop_lr k d hd)).mono ?_
          rintro e x4 ⟨rfl, hA4⟩
          rw [hm] at hA4
          go_wp2_with fail
          refine (text7_any 122 x4).mono ?_
          rintro e x5 ⟨a5, n5, d5, rfl, ho5, h5a, h5b, j5⟩
          have hA5 := hA4.keep j5
          go_wp2_with fail
          refine (hA5.push hw2.out a5 n5 d5 kZf ho5.rd 7 (by rw [← hm]; exact full_lr k d hd kZf (by decide +kernel))).mono ?_
          rintro e x6 ⟨rfl, hA6⟩
          replace hm := hide hm
          replace hdE := hide hdE
          replace hdF := hide hdF
          replace hE := hide hE
          replace hF := hide hF
          clear ho1 ho5 h1a h1b h5a h5b j1 j5 hA1 hA2 hA3 hA4 hA5 hAt
          rw [hm.out] at hA6
          have hA6 := hide hA6
          go_wp2_with fail
          go_loopg [12, 79, 80, 81, 82, 83, 84, 85, 86, 87, 88, 89, 90, 91, 92, 93, 94, 95] p (fun kx s12 s79 s80 s81 s82 s83 s84 s85 s86 s87 s88 s89 s90 s91 s92 s93 s94 s95 wr => ∃ i : Nat, s12 = .int .i64 i ∧ i ≤ p ∧ p - i ≤ kx ∧ Hid (At w wr b ⟨k, d, Lr d (m - i)⟩))
          case atStart => exact ⟨0, rfl, Nat.zero_le _, by omega, hA6⟩
          case round =>
            obtain ⟨i, rfl, hi, hg2, hAi⟩ := hrel
            by_cases hil : i < p
            · have hin : (i : Int) < (p : Int) := by omega
              have hmd := hm.out
              have f1 : IntKind.i64.wrap ((k : Int) - 1) = ((k - 1 : Nat) : Int) := by rw [IntKind.wrap_i64]; omega
              have f2 : IntKind.i64.wrap (((k - 1 : Nat) : Int) - (i : Int)) = ((k - 1 - i : Nat) : Int) := by rw [IntKind.wrap_i64]; omega
              have f3 : Int.tmod ((k - 1 - i : Nat) : Int) 26 = (((k - 1 - i) % 26 : Nat) : Int) := rfl
              have hq : (k - 1 - i) % 26 < 26 := Nat.mod_lt _ (by decide)
              have hpop : Hid (popS ⟨k, d, Lr d (m - i)⟩ = (⟨k, d, Lr d (m - (i + 1))⟩, ⟨[runeC (97 + (((k - 1 - i) % 26 : Nat) : Int))], false⟩, 0)) := hide (by
                rw [show m - i = (m - (i + 1)) + 1 by omega, pop_lr, show d + (m - (i + 1)) = k - 1 - i by omega]
                rfl)
              have f4 : IntKind.i64.wrap ((i : Int) + 1) = (i : Int) + 1 := by rw [IntKind.wrap_i64]; omega
              replace hmd := hide hmd
              generalize k - 1 = u at *
              generalize u - i = v at *
              generalize v % 26 = q at *
              have f5 : IntKind.i64.wrap (97 + (q : Int)) = 97 + (q : Int) := by rw [IntKind.wrap_i64]; omega
              have f6 : IntKind.i32.wrap (97 + (q : Int)) = 97 + (q : Int) := by rw [IntKind.wrap_i32]; omega
              have f7 : IntKind.i64.wrap (q : Int) = (q : Int) := by rw [IntKind.wrap_i64]; omega
              go_wp2_with fail
              refine (text7_any (97 + (q : Int)) wr).mono ?_
              rintro e y1 ⟨a7, n7, d7, rfl, ho7, h7a, h7b, j7⟩
              go_wp2_with fail
              refine (hAi.out.pops hw2.out j7 a7 n7 d7 false [runeC (97 + (q : Int))] 0 true ho7.rd (fun y hy => (ho7.ge y hy).1) (by rw [hpop.out]; simp) (by rw [hpop.out])).mono ?_
              rintro e y2 ⟨rfl, hA8⟩
              go_wp2_with fail
              go_roundg (p - (i + 1))
              case measure => omega
              case rel => exact ⟨i + 1, by push_cast; rfl, by omega, Nat.le_refl _, hide hA8⟩
            · obtain rfl : i = p := by omega
              have g1 : IntKind.i64.wrap ((m : Int) - (i : Int)) = ((m - i : Nat) : Int) := by rw [IntKind.wrap_i64]; omega
              have g2 : (m : Int) - (i : Int) = ((m - i : Nat) : Int) := by omega
              have hmd := hm.out
              have hl : ((Sh.ls ⟨k, d, Lr d (m - i)⟩).length : Int) = ((m - i : Nat) : Int) := by simp only [Lr_len]
              have hrm : ((Sh.room ⟨k, d, Lr d (m - i)⟩ : Nat) : Int) = (i : Int) := by unfold Sh.room; simp only [Lr_len]; omega
              have hdm : Int.tmod (d : Int) 26 = ((d % 26 : Nat) : Int) := rfl
              have hdq : d % 26 < 26 := Nat.mod_lt _ (by decide)
              have hget : 0 < m - i → Hid (getS ⟨k, d, Lr d (m - i)⟩ 0 = (⟨[runeC (97 + ((d % 26 : Nat) : Int))], false⟩, 0)) := fun h => hide (by
                rw [show m - i = (m - i - 1) + 1 by omega, get_lr]
                rfl)
              replace hget := hide hget
              replace hmd := hide hmd
              replace hl := hide hl
              replace hrm := hide hrm
              generalize d % 26 = q at *
              have f5 : IntKind.i64.wrap (97 + (q : Int)) = 97 + (q : Int) := by rw [IntKind.wrap_i64]; omega
              have f6 : IntKind.i32.wrap (97 + (q : Int)) = 97 + (q : Int) := by rw [IntKind.wrap_i32]; omega
              generalize hmi : m - i = r at *
              replace hmi := hide hmi
              go_wp2_with fail
              refine (hAi.out.len (r : Int) hl.out).mono ?_
              rintro e y1 ⟨rfl, hB1⟩
              go_wp2_with fail
              refine (hB1.room (i : Int) hrm.out).mono ?_
              rintro e y2 ⟨rfl, hB2⟩
              go_wp2_with fail
              refine (hB2.gone (d : Int) rfl).mono ?_
              rintro e y3 ⟨rfl, hB3⟩
              go_wp2_with fail
              refine (hB3.len (r : Int) hl.out).mono ?_
              rintro e y4 ⟨rfl, hB4⟩
              by_cases hr0 : r = 0
              · have hr1 : ((r : Int) == 0) = true := by simp [hr0]
                go_wp2_with fail
                refine (hkn0.out y4 hB4.kp).mono ?_
                rintro e y5 ⟨rfl, j5⟩
                go_wp2_with fail
                go_ret
                exact ⟨rfl, hB4.kp.trans j5 (by simp)⟩
              · have hr1 : ((r : Int) == 0) = false := by simp [hr0]
                have hgt := hget.out (by omega)
                go_wp2_with fail
                refine (text7_any (97 + (q : Int)) y4).mono ?_
                rintro e y5 ⟨a7, n7, d7, rfl, ho7, h7a, h7b, j7⟩
                go_wp2_with fail
                refine ((hB4.keep j7).gets 0 a7 n7 d7 false [runeC (97 + (q : Int))] 0 true ho7.rd (by rw [hgt.out]; simp)).mono ?_
                rintro e y6 ⟨rfl, hB6⟩
                go_wp2_with fail
                refine (hkn0.out y6 hB6.kp).mono ?_
                rintro e y7 ⟨rfl, j8⟩
                go_wp2_with fail
                go_ret
                exact ⟨rfl, hB6.kp.trans j8 (by simp)⟩
end Go.Proofs.YtpeedjknjjbabaaDoor
