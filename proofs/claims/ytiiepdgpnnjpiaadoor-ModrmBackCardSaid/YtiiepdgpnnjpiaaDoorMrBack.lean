/-
  Law 9: each way is read as it was.
-/
import Derived.Test.YtiiepdgpnnjpiaaDoorMrFacts
import Derived.Test.YtiiepdgpnnjpiaaDoorMrKnowns
import Derived.Test.YtiiepdgpnnjpiaaDoorPick
import Derived.Deep.RegionHeldLaw
namespace Go.Proofs.YtiiepdgpnnjpiaaDoor
open Go.RowKit
set_option maxRecDepth 100000

set_option maxHeartbeats 4000000 in
noncomputable def back_parts (f k rc rn bc bn ic ix s d z n : Int) (Aa Ab : Option Addr) (ca cb : Nat) (xa xb : List Int) (la lb : Nat) (cut : Int) (L : List Way) (r ck crc crn c0 c1 c2 c3 c4 c5 c6 m0 m1 m2 m3 m4 m5 m6 : Int) (w : World) :
    PSigma fun P : Prop => Hid P → ∀ (_ : ck = 1 ∧ r = crn ∧ m0 = 0 ∧ m1 = 0 ∧ m2 = 0 ∧ m3 = 0 ∧ m4 = 0 ∧ m5 = 0 ∧ m6 = 0 ∨ ck = 2 ∧ r = -1 ∧ m0 = c0 ∧ m1 = c1 ∧ m2 = c2 ∧ m3 = c3 ∧ m4 = c4 ∧ m5 = c5 ∧ m6 = 0) (_ : Tz w) (_ : I64 s) (_ : I64 cut)
    (_ : Mem w w.heap.size Aa xa) (_ : Mem w w.heap.size Ab xb) (_ : xa.length = la) (_ : xb.length = lb) (_ : la ≤ 30) (_ : lb ≤ 30)
    (_ : allE f ⟨k, rc, rn, ⟨bc, bn, ic, ix, s, d, z⟩, n⟩ = 0) (_ : allF f ⟨k, rc, rn, ⟨bc, bn, ic, ix, s, d, z⟩, n⟩ = L) (_ : aoutF ⟨k, rc, rn, ⟨bc, bn, ic, ix, s, d, z⟩, n⟩ = ⟨ck, crc, crn, ⟨c0, c1, c2, c3, c4, c5, c6⟩, 0⟩) (_ : argF ⟨k, rc, rn, ⟨bc, bn, ic, ix, s, d, z⟩, n⟩ = 0) (_ : Facts f (r) ⟨m0, m1, m2, m3, m4, m5, m6⟩ L),
    Calls Tryd.prog 6 #[.int .i64 f, .agg #[.int .i64 k, .int .i64 rc, .int .i64 rn, .int .i64 bc, .int .i64 bn, .int .i64 ic, .int .i64 ix, .int .i64 s, .int .i64 d, .int .i64 z, .int .i64 n], .slice Aa la ca, .slice Ab lb cb, .int .i64 cut] w fun e w' => e = .returned (.bool true) ∧ Below w.heap.size w w' := ⟨_, fun HLEAF => by
  intro hkind ht hs hcut ha hb hla hlb h30a h30b hE hF hx hk hL
  have HT := hid ht
  have HA := hid (And.intro ha (And.intro hb (And.intro hla hlb)))
  have HE := hid (And.intro hE (And.intro hF (And.intro hx (And.intro hk hs))))
  have HL := hid hL
  have HC := hid hcut
  have HK := hid hkind
  clear hkind
  have hle1 : ¬ (30 : Int) < (la : Int) := by omega
  have hle2 : ¬ (30 : Int) < (lb : Int) := by omega
  have HO := hid ((Own.nil w).alloc w.heap.size #[.int .i64 k, .int .i64 rc, .int .i64 rn, .int .i64 bc, .int .i64 bn, .int .i64 ic, .int .i64 ix, .int .i64 s, .int .i64 d, .int .i64 z, .int .i64 n] 27 rfl)
  clear ht ha hb hla hlb hE hF hx hk hL hs hcut
  go_enter Tryd.func6, Tryd.ntmps6
  go_wp2_with fail
  refine (known_any _ (HT.out.below HO.out.below)).mono ?_
  rintro e w1 ⟨rfl, hb1⟩
  replace HO := hid (HO.out.call hb1)
  have hcA := HO.out.c
  have z0 := HO.out.z
  clear hb1
  go_wp2_with fail
  have H3 := mall_any f k rc rn bc bn ic ix s d z n HE.out.2.2.2.2 _ (HT.out.below HO.out.below)
  unfold AV MAll at H3
  rw [HE.out.1, HE.out.2.1] at H3
  refine H3.mono ?_
  clear H3 hcA z0
  rintro e w2 ⟨v, rfl, hb2, Z, hZ1, hZ2, hZ3, -⟩
  replace HO := hid (HO.out.call hb2)
  obtain ⟨N, hN⟩ : ∃ N, Z.length = N := ⟨_, rfl⟩
  have hNL : L.length = N := by rw [← hN, ← hZ1, List.length_map]
  have hN1 : 1 ≤ N := by have := HL.out.few; omega
  have hN9 : N ≤ 9 := by have := HL.out.few; omega
  rw [hN] at hZ2
  obtain ⟨g, c', rfl, hle', hg, cs, hcs⟩ := row_form hZ2 (by omega)
  have hgl : g < w2.heap.size := (Array.getElem?_eq_some_iff.1 hcs).1
  have HZ := hid (And.intro hZ1 (And.intro hN (And.intro hZ2 (And.intro hZ3 hNL))))
  have hcA := HO.out.c
  have z0 := HO.out.z
  have n0 : ((N : Int) == 0) = false := by simp; omega
  clear hZ1 hN hZ2 hZ3 hcs cs hg hb2 hNL
  go_wp2_with fail
  refine (acanon_of HE.out.2.2.1 HE.out.2.2.2.1 HE.out.2.2.2.2 _).mono ?_
  rintro e w3 ⟨rfl, hb3⟩
  have HB23 := hid hb3
  replace HO := hid (HO.out.call hb3)
  unfold AV
  clear hb3 hcA z0
  have HB34 := hid ((Below.refl w3.heap.size w3).alloc (Nat.le_refl _) (.cells #[.int .i64 ck, .int .i64 crc, .int .i64 crn, .int .i64 c0, .int .i64 c1, .int .i64 c2, .int .i64 c3, .int .i64 c4, .int .i64 c5, .int .i64 c6, .int .i64 0] 27))
  replace HO := hid (HO.out.alloc w3.heap.size #[.int .i64 ck, .int .i64 crc, .int .i64 crn, .int .i64 c0, .int .i64 c1, .int .i64 c2, .int .i64 c3, .int .i64 c4, .int .i64 c5, .int .i64 c6, .int .i64 0] 27 rfl)
  go_wp2_with fail
  generalize w3.alloc (.cells #[.int .i64 ck, .int .i64 crc, .int .i64 crn, .int .i64 c0, .int .i64 c1, .int .i64 c2, .int .i64 c3, .int .i64 c4, .int .i64 c5, .int .i64 c6, .int .i64 0] 27) = W at *
  have hcA := HO.out.c
  have z0 := HO.out.z
  have hgw : g < W.heap.size := by have := HB23.out.size; have := HB34.out.size; omega
  have HB2W := hid (HB23.out.trans (HB34.out.mono HB23.out.size))
  go_loopw [16] (fun i wr => ∃ j : Nat, j ≤ N ∧ i = .int .i64 j ∧ Below W.heap.size W wr) (fun i _ => N - (intOf i).toNat)
  case atStart => exact ⟨0, by omega, rfl, Below.refl _ _⟩
  case round =>
    rename_i Q0 _ K2 a2
    obtain ⟨j, hj, rfl, hbr⟩ := hrel
    have HR := hid hbr
    clear hbr
    by_cases hjn : j < N
    · have hjz : j < Z.length := by rw [HZ.out.2.1]; omega
      have hz : Z[j]? = some Z[j] := List.getElem?_eq_getElem hjz
      generalize Z[j] = x at hz
      have hyj : L[j]? = some x.y := by rw [← HZ.out.1, List.getElem?_map, hz]; rfl
      have hym := List.mem_of_getElem? hyj
      have hwh := (HZ.out.2.2.2.1 _ (List.mem_of_getElem? hz)).2
      have hcell := row_at HZ.out.2.2.1 HZ.out.2.1 hz
      have hB2 := HB2W.out.trans (HR.out.mono HB2W.out.size)
      have hM1 : Mem wr wr.heap.size (some ⟨x.g, 0, none⟩) x.y.bs := hwh.below (HL.out.bytes _ hym) hB2 hB2.size
      obtain ⟨zs, -, -, -, hkk, -⟩ := hwh
      obtain ⟨q, kk, bs, yx, yb⟩ := x
      simp only at hyj hcell hM1 hkk hym
      have x0 := (hB2.cell (p := ⟨g, j * 3, none⟩) hgl).trans hcell.1
      have x1 := (hB2.cell (p := ⟨g, j * 3 + 1, none⟩) hgl).trans hcell.2.1
      have x2 := (hB2.cell (p := ⟨g, j * 3 + 2, none⟩) hgl).trans hcell.2.2
      obtain ⟨n, hn⟩ : ∃ n, bs.length = n := ⟨_, rfl⟩
      have hlen := HL.out.len _ hym
      simp only [hn] at hlen hkk x0
      have hlen1 : 1 ≤ n := hlen.1
      have hlen6 : n ≤ 6 := hlen.2
      have HY := hid (And.intro hyj (And.intro hym (And.intro hn hM1)))
      have i1 : (0 : Int) ≤ (j : Int) := by omega
      have i2 : (j : Int) < (N : Int) := by omega
      clear hyj hym hn hM1 hcell hB2 hz hjz hlen zs
      have HP := hid ((Own.nil wr).alloc wr.heap.size #[.slice (some ⟨q, 0, none⟩) n kk, .int .i64 yx, .int .i64 yb] 34 rfl)
      have hgr : g < wr.heap.size := Nat.lt_of_lt_of_le hgw HR.out.size
      go_upto_region 12 with fail
      generalize wr.alloc (.cells #[.slice (some ⟨q, 0, none⟩) n kk, .int .i64 yx, .int .i64 yb] 34) = w5 at *
      have p0 := HP.out.c
      have pz := HP.out.z
      have hB25 := hid (HB2W.out.trans ((HR.out.trans (HP.out.below.mono HR.out.size)).mono HB2W.out.size))
      have HB5 := hid (HO.out.below.trans ((HR.out.trans (HP.out.below.mono HR.out.size)).mono HO.out.below.size))
      clear x0 x1 x2
      go_cut [18, 19] (fun s18 s19 wx => ∃ g18 : Nat, s18 = .pointer (some ⟨g18, 0, none⟩) ∧ s19 = .int .i64 0 ∧ w5.heap.size ≤ g18 ∧ Hid (Below w5.heap.size w5 wx) ∧ Hid (BlkAt wx g18 #[.int .i64 f, .int .i64 (r), .int .i64 m0, .int .i64 m1, .int .i64 m2, .int .i64 m3, .int .i64 m4, .int .i64 m5, .int .i64 m6, .int .i64 ((la : Int) + (n : Int))] 41))
      case first =>
        have tok1 : True := trivial
        have tok2 : True := trivial
        have o1 : la ≤ 1000 := by omega
        have o2 : la + n ≤ 100000000000 := by omega
        have o3 : la + n + lb ≤ 100000000000 := by omega
        have o4 : la + n + lb ≤ 1000000 := by omega
        have HMA := hid ((HA.out.1.below HB5.out).mono HB5.out.size)
        have HMB := hid ((HA.out.2.1.below HB5.out).mono HB5.out.size)
        have HMX := hid ((HY.out.2.2.2.below HP.out.below).mono HP.out.below.size)
        have HIB := hid ((HA.out.1.1.append (HL.out.bytes _ HY.out.2.1)).append HA.out.2.1.1)
        have HRD := hid (show readA (xa ++ bs ++ xb) (la : Int) yx yb = (0, (⟨f, r, ⟨m0, m1, m2, m3, m4, m5, m6⟩, n⟩ : Sn), (la : Int) + (n : Int)) by have := HL.out.read HY.out.2.1 xa xb; rw [HA.out.2.2.1] at this; rw [← HY.out.2.2.1]; exact this)
        go_region_held3 (fun w' => Below w5.heap.size w5 w' ∧ ∀ b o, b < w5.heap.size → w'.cell? ⟨b, o, none⟩ = w5.cell? ⟨b, o, none⟩) (first | with_reducible assumption | with_reducible exact Old.of (Below.refl w5.heap.size w5) | with_reducible exact old_drew (Old.of (Below.refl w5.heap.size w5)) | with_reducible exact old_drew (old_alloc (Old.of (Below.refl w5.heap.size w5)) _) | ((with_reducible refine old_drew ?_); with_reducible assumption) | ((with_reducible refine old_kept ?_ (by with_reducible assumption)); with_reducible assumption) | ((with_reducible refine old_alloc ?_ _); first | with_reducible assumption | with_reducible exact Old.of (Below.refl w5.heap.size w5) | with_reducible exact old_drew (Old.of (Below.refl w5.heap.size w5))) | ((repeat with_reducible refine old_set ?_ _ _ (by first | omega | (simp; done) | (simp; omega))); first | with_reducible assumption | ((with_reducible refine old_alloc ?_ _); with_reducible assumption)) | fail) (first | (go_at_call 22; (refine (copyb_of HA.out.2.2.1 _ (HMA.out.below (show Below w5.heap.size w5 _ ∧ ∀ b o, b < w5.heap.size → World.cell? _ ⟨b, o, none⟩ = w5.cell? ⟨b, o, none⟩ by with_reducible assumption).1) o1 (show Below w5.heap.size w5 _ ∧ ∀ b o, b < w5.heap.size → World.cell? _ ⟨b, o, none⟩ = w5.cell? ⟨b, o, none⟩ by with_reducible assumption).1.size (b := w5.heap.size) (show Below w5.heap.size w5 _ ∧ ∀ b o, b < w5.heap.size → World.cell? _ ⟨b, o, none⟩ = w5.cell? ⟨b, o, none⟩ by with_reducible assumption).1.size).mono ?_); rintro e w6 ⟨v6, rfl, hb6, ho6⟩; have hS6 := old_kept (show Below w5.heap.size w5 _ ∧ ∀ b o, b < w5.heap.size → World.cell? _ ⟨b, o, none⟩ = w5.cell? ⟨b, o, none⟩ by with_reducible assumption) hb6; have hs6 := hS6.1.size; (try (have hk : BlkAt w6 w5.heap.size #[.int .i64 0, .int .i64 0, .int .i64 0, .int .i64 0, .int .i64 0, .int .i64 0, .int .i64 0, .int .i64 0, .int .i64 0, .int .i64 0] 41 := (by refine blk_call ?_ hb6; (first | with_reducible assumption | with_reducible exact blk_new rfl | with_reducible exact blk_drew (blk_new rfl) | fail)); have hkc := hk.c; have hkf := hk.f; have hkz := hk.lt))) | (go_at_call 14; (refine (mread_of HRD.out _ (la + n + lb) c8 _ hl8 hc8 o4 ?_).mono ?_); (focus ((repeat (first | with_reducible assumption | with_reducible refine mem_alloc ?_ _ | with_reducible refine mem_drew ?_)); done)); rintro e w9 ⟨rfl, hb9⟩; have hS9 := old_kept (show Below w5.heap.size w5 _ ∧ ∀ b o, b < w5.heap.size → World.cell? _ ⟨b, o, none⟩ = w5.cell? ⟨b, o, none⟩ by with_reducible assumption) hb9; have hs9 := hS9.1.size; (try (have hk : BlkAt w9 w5.heap.size #[.int .i64 0, .int .i64 0, .int .i64 0, .int .i64 0, .int .i64 0, .int .i64 0, .int .i64 0, .int .i64 0, .int .i64 0, .int .i64 0] 41 := (by refine blk_call ?_ hb9; (first | with_reducible assumption | with_reducible exact blk_new rfl | with_reducible exact blk_drew (blk_new rfl) | fail)); have hkc := hk.c; have hkf := hk.f; have hkz := hk.lt)); (try (have hk : BlkAt w9 w6.heap.size #[.int .i64 0, .int .i64 0, .int .i64 0, .int .i64 0, .int .i64 0, .int .i64 0, .int .i64 0, .int .i64 0, .int .i64 0, .int .i64 0] 41 := (by refine blk_call ?_ hb9; (first | with_reducible assumption | with_reducible exact blk_new rfl | with_reducible exact blk_drew (blk_new rfl) | fail)); have hkc := hk.c; have hkf := hk.f; have hkz := hk.lt)); (try (have hk : BlkAt w9 w7.heap.size #[.int .i64 0, .int .i64 0, .int .i64 0, .int .i64 0, .int .i64 0, .int .i64 0, .int .i64 0, .int .i64 0, .int .i64 0, .int .i64 0] 41 := (by refine blk_call ?_ hb9; (first | with_reducible assumption | with_reducible exact blk_new rfl | with_reducible exact blk_drew (blk_new rfl) | fail)); have hkc := hk.c; have hkf := hk.f; have hkz := hk.lt)); (try (have hk : BlkAt w9 w8.heap.size #[.int .i64 0, .int .i64 0, .int .i64 0, .int .i64 0, .int .i64 0, .int .i64 0, .int .i64 0, .int .i64 0, .int .i64 0, .int .i64 0] 41 := (by refine blk_call ?_ hb9; (first | with_reducible assumption | with_reducible exact blk_new rfl | with_reducible exact blk_drew (blk_new rfl) | fail)); have hkc := hk.c; have hkf := hk.f; have hkz := hk.lt))) | (have _t := ho6; have _u := tok1; (with_reducible refine at_step ?_); refine step_append_row (by rfl) _ _ (by rfl) w5.heap.size v6 la xa (by rfl) (by (first | with_reducible assumption | with_reducible exact ob_alloc (by with_reducible assumption) _ | fail)) _ n kk w5.heap.size bs (by rfl) HY.out.2.2.1 (HMX.out.below (show Below w5.heap.size w5 _ ∧ ∀ b o, b < w5.heap.size → World.cell? _ ⟨b, o, none⟩ = w5.cell? ⟨b, o, none⟩ by with_reducible assumption).1) o2 (show Below w5.heap.size w5 _ ∧ ∀ b o, b < w5.heap.size → World.cell? _ ⟨b, o, none⟩ = w5.cell? ⟨b, o, none⟩ by with_reducible assumption).1.size ?_; intro v7 w7 ho7 hg7; clear tok1 _t _u; have hS7 := Old.of ((show Below w5.heap.size w5 _ ∧ ∀ b o, b < w5.heap.size → World.cell? _ ⟨b, o, none⟩ = w5.cell? ⟨b, o, none⟩ by with_reducible assumption).1.trans (ob_below (base := w5.heap.size) (n := la) (xs := xa) (by (first | with_reducible assumption | with_reducible exact ob_alloc (by with_reducible assumption) _ | fail)) hg7.out (show Below w5.heap.size w5 _ ∧ ∀ b o, b < w5.heap.size → World.cell? _ ⟨b, o, none⟩ = w5.cell? ⟨b, o, none⟩ by with_reducible assumption).1.size)); have hs7 := hS7.1.size; have ho7' := ho7.out; (try (have hk : BlkAt w7 w5.heap.size #[.int .i64 0, .int .i64 0, .int .i64 0, .int .i64 0, .int .i64 0, .int .i64 0, .int .i64 0, .int .i64 0, .int .i64 0, .int .i64 0] 41 := (by refine blk_grown (base := w5.heap.size) (n := la) (xs := xa) ?_ ?_ (by decide) hg7.out; (first | (first | with_reducible assumption | with_reducible exact blk_new rfl | with_reducible exact blk_drew (blk_new rfl) | fail) | (first | with_reducible assumption | with_reducible exact ob_alloc (by with_reducible assumption) _ | fail)); (first | done | (first | with_reducible assumption | with_reducible exact ob_alloc (by with_reducible assumption) _ | fail) | (first | with_reducible assumption | with_reducible exact blk_new rfl | with_reducible exact blk_drew (blk_new rfl) | fail) | fail)); have hkc := hk.c; have hkf := hk.f; have hkz := hk.lt)); (try (have hk : BlkAt w7 w6.heap.size #[.int .i64 0, .int .i64 0, .int .i64 0, .int .i64 0, .int .i64 0, .int .i64 0, .int .i64 0, .int .i64 0, .int .i64 0, .int .i64 0] 41 := (by refine blk_grown (base := w5.heap.size) (n := la) (xs := xa) ?_ ?_ (by decide) hg7.out; (first | (first | with_reducible assumption | with_reducible exact blk_new rfl | with_reducible exact blk_drew (blk_new rfl) | fail) | (first | with_reducible assumption | with_reducible exact ob_alloc (by with_reducible assumption) _ | fail)); (first | done | (first | with_reducible assumption | with_reducible exact ob_alloc (by with_reducible assumption) _ | fail) | (first | with_reducible assumption | with_reducible exact blk_new rfl | with_reducible exact blk_drew (blk_new rfl) | fail) | fail)); have hkc := hk.c; have hkf := hk.f; have hkz := hk.lt))) | (have _t := ho7; have _u := tok2; (with_reducible refine at_step ?_); refine step_append_row (by rfl) _ _ (by rfl) w5.heap.size v7 (la + n) (xa ++ bs) (by rfl) (by (first | with_reducible assumption | with_reducible exact ob_alloc (by with_reducible assumption) _ | fail)) _ lb cb w5.heap.size xb (by rfl) HA.out.2.2.2 (HMB.out.below (show Below w5.heap.size w5 _ ∧ ∀ b o, b < w5.heap.size → World.cell? _ ⟨b, o, none⟩ = w5.cell? ⟨b, o, none⟩ by with_reducible assumption).1) o3 (show Below w5.heap.size w5 _ ∧ ∀ b o, b < w5.heap.size → World.cell? _ ⟨b, o, none⟩ = w5.cell? ⟨b, o, none⟩ by with_reducible assumption).1.size ?_; intro v8 w8 ho8 hg8; clear tok2 _t _u; have hS8 := Old.of ((show Below w5.heap.size w5 _ ∧ ∀ b o, b < w5.heap.size → World.cell? _ ⟨b, o, none⟩ = w5.cell? ⟨b, o, none⟩ by with_reducible assumption).1.trans (ob_below (base := w5.heap.size) (n := la + n) (xs := xa ++ bs) (by (first | with_reducible assumption | with_reducible exact ob_alloc (by with_reducible assumption) _ | fail)) hg8.out (show Below w5.heap.size w5 _ ∧ ∀ b o, b < w5.heap.size → World.cell? _ ⟨b, o, none⟩ = w5.cell? ⟨b, o, none⟩ by with_reducible assumption).1.size)); have hs8 := hS8.1.size; have ho8' := ho8.out; (try (have hk : BlkAt w8 w5.heap.size #[.int .i64 0, .int .i64 0, .int .i64 0, .int .i64 0, .int .i64 0, .int .i64 0, .int .i64 0, .int .i64 0, .int .i64 0, .int .i64 0] 41 := (by refine blk_grown (base := w5.heap.size) (n := la + n) (xs := xa ++ bs) ?_ ?_ (by decide) hg8.out; (first | (first | with_reducible assumption | with_reducible exact blk_new rfl | with_reducible exact blk_drew (blk_new rfl) | fail) | (first | with_reducible assumption | with_reducible exact ob_alloc (by with_reducible assumption) _ | fail)); (first | done | (first | with_reducible assumption | with_reducible exact ob_alloc (by with_reducible assumption) _ | fail) | (first | with_reducible assumption | with_reducible exact blk_new rfl | with_reducible exact blk_drew (blk_new rfl) | fail) | fail)); have hkc := hk.c; have hkf := hk.f; have hkz := hk.lt)); (try (have hk : BlkAt w8 w6.heap.size #[.int .i64 0, .int .i64 0, .int .i64 0, .int .i64 0, .int .i64 0, .int .i64 0, .int .i64 0, .int .i64 0, .int .i64 0, .int .i64 0] 41 := (by refine blk_grown (base := w5.heap.size) (n := la + n) (xs := xa ++ bs) ?_ ?_ (by decide) hg8.out; (first | (first | with_reducible assumption | with_reducible exact blk_new rfl | with_reducible exact blk_drew (blk_new rfl) | fail) | (first | with_reducible assumption | with_reducible exact ob_alloc (by with_reducible assumption) _ | fail)); (first | done | (first | with_reducible assumption | with_reducible exact ob_alloc (by with_reducible assumption) _ | fail) | (first | with_reducible assumption | with_reducible exact blk_new rfl | with_reducible exact blk_drew (blk_new rfl) | fail) | fail)); have hkc := hk.c; have hkf := hk.f; have hkz := hk.lt)); (try (have hk : BlkAt w8 w7.heap.size #[.int .i64 0, .int .i64 0, .int .i64 0, .int .i64 0, .int .i64 0, .int .i64 0, .int .i64 0, .int .i64 0, .int .i64 0, .int .i64 0] 41 := (by refine blk_grown (base := w5.heap.size) (n := la + n) (xs := xa ++ bs) ?_ ?_ (by decide) hg8.out; (first | (first | with_reducible assumption | with_reducible exact blk_new rfl | with_reducible exact blk_drew (blk_new rfl) | fail) | (first | with_reducible assumption | with_reducible exact ob_alloc (by with_reducible assumption) _ | fail)); (first | done | (first | with_reducible assumption | with_reducible exact ob_alloc (by with_reducible assumption) _ | fail) | (first | with_reducible assumption | with_reducible exact blk_new rfl | with_reducible exact blk_drew (blk_new rfl) | fail) | fail)); have hkc := hk.c; have hkf := hk.f; have hkz := hk.lt)); obtain ⟨A8, c8, rfl, hc8, hl8, hm8⟩ := ob_form ho8' HIB.out) | fail)
        all_goals
          go_wp2_with fail
          go_meet
          refine ⟨_, rfl, rfl, ?_, hid ?_, hid ?_⟩
          · first | omega | (have := hS9.1.size; omega)
          · exact (show Below w5.heap.size w5 _ ∧ ∀ b o, b < w5.heap.size → World.cell? _ ⟨b, o, none⟩ = w5.cell? ⟨b, o, none⟩ by with_reducible assumption).1
          · first | with_reducible exact blk_new rfl | exact blk_ten (by with_reducible assumption) | fail
      case rest =>
        obtain ⟨g18, rfl, rfl, hg18, hbx, hblk⟩ := hcut
        clear HO HB23 HB34 hB25 HB5
        rename_i o21 o66 o67 o68 o69 o70 o71 o72 o73 o74 o75 o76 o77 o78 o79 o80 o81 o82 o83 o84 o85 o86 o87 o88 o89 o90 o91 o92 o93 o94 o95 o96 o97 o98 o99 o100 o101 o102 o103 o104 o105 o106 o107 o108 o109 o110 o111 o112 o113 o114 o115 o116 o117 o118 o119 o120 o121 o122 o123 o124 o125 o126 o127 o128 o129 o130 o131 o132 o133 o134 o135 o136 o137 o138 o139 o140 o141 o142 o143 o144 o145 o146 o147 o148 o149 o150 o151 o152 o153 o154 o155 o156 o157 o158 o159 o160 o161 o162 o163 o164 o165 o166 o167 o168 o169 o170 o171 o172 o173 o174 o175 o176 o177 o178 o179 o180 o181 o182 o183 o184 o185 o186 o187 o188 o189 o190 o191 o192 o193 o194 o195 o196 o197 o198 o199 o200 o201 o202 o203 o204 o205 o206 o207 o208 o209 o210 o211 o212 o213 o214 o215 o216 o217 o218 o219 o220 o221 o222 o223 Qx Kx ax Ky ay
        revert Q0 w1 w2 Z N hN1 hN9 g c' hle' hgl HZ n0 w3 K2 a2 W hcA z0 hgw HB2W wr u10 u17 u18 u19 u20 u22 u23 u24 o21 o66 o67 o68 o69 o70 o71 o72 o73 o74 o75 o76 o77 o78 o79 o80 o81 o82 o83 o84 o85 o86 o87 o88 o89 o90 o91 o92 o93 o94 o95 o96 o97 o98 o99 o100 o101 o102 o103 o104 o105 o106 o107 o108 o109 o110 o111 o112 o113 o114 o115 o116 o117 o118 o119 o120 o121 o122 o123 o124 o125 o126 o127 o128 o129 o130 o131 o132 o133 o134 o135 o136 o137 o138 o139 o140 o141 o142 o143 o144 o145 o146 o147 o148 o149 o150 o151 o152 o153 o154 o155 o156 o157 o158 o159 o160 o161 o162 o163 o164 o165 o166 o167 o168 o169 o170 o171 o172 o173 o174 o175 o176 o177 o178 o179 o180 o181 o182 o183 o184 o185 o186 o187 o188 o189 o190 o191 o192 o193 o194 o195 o196 o197 o198 o199 o200 o201 o202 o203 o204 o205 o206 o207 o208 o209 o210 o211 o212 o213 o214 o215 o216 o217 o218 o219 o220 o221 o222 o223 j hj HR hjn q kk bs yx yb n hkk hlen1 hlen6 HY i1 i2 hgr Qx Kx ax Ky ay w5 HP p0 pz wc u21 u66 u67 u68 u69 u70 u71 u72 u73 u74 u75 u76 u77 u78 u79 u80 u81 u82 u83 u84 u85 u86 u87 u88 u89 u90 u91 u92 u93 u94 u95 u96 u97 u98 u99 u100 u101 u102 u103 u104 u105 u106 u107 u108 u109 u110 u111 u112 u113 u114 u115 u116 u117 u118 u119 u120 u121 u122 u123 u124 u125 u126 u127 u128 u129 u130 u131 u132 u133 u134 u135 u136 u137 u138 u139 u140 u141 u142 u143 u144 u145 u146 u147 u148 u149 u150 u151 u152 u153 u154 u155 u156 u157 u158 u159 u160 u161 u162 u163 u164 u165 u166 u167 u168 u169 u170 u171 u172 u173 u174 u175 u176 u177 u178 u179 u180 u181 u182 u183 u184 u185 u186 u187 u188 u189 u190 u191 u192 u193 u194 u195 u196 u197 u198 u199 u200 u201 u202 u203 u204 u205 u206 u207 u208 u209 u210 u211 u212 u213 u214 u215 u216 u217 u218 u219 u220 u221 u222 u223 g18 hg18 hbx hblk
        exact HLEAF.out
    · have hjn' : j = N := by omega
      have HBE := hid (HO.out.below.trans (HR.out.mono HO.out.below.size))
      clear hcA
      go_wp2_with fail
      go_ret
      exact ⟨rfl, HBE.out⟩⟩
set_option maxHeartbeats 4000000 in
theorem back_rest (f k rc rn bc bn ic ix s d z n : Int) (Aa Ab : Option Addr) (ca cb : Nat) (xa xb : List Int) (la lb : Nat) (cut : Int) (L : List Way) (r ck crc crn c0 c1 c2 c3 c4 c5 c6 m0 m1 m2 m3 m4 m5 m6 : Int) (w : World) (hkind : ck = 1 ∧ r = crn ∧ m0 = 0 ∧ m1 = 0 ∧ m2 = 0 ∧ m3 = 0 ∧ m4 = 0 ∧ m5 = 0 ∧ m6 = 0 ∨ ck = 2 ∧ r = -1 ∧ m0 = c0 ∧ m1 = c1 ∧ m2 = c2 ∧ m3 = c3 ∧ m4 = c4 ∧ m5 = c5 ∧ m6 = 0) (ht : Tz w) (hs : I64 s) (hcut : I64 cut)
    (ha : Mem w w.heap.size Aa xa) (hb : Mem w w.heap.size Ab xb) (hla : xa.length = la) (hlb : xb.length = lb) (h30a : la ≤ 30) (h30b : lb ≤ 30)
    (hE : allE f ⟨k, rc, rn, ⟨bc, bn, ic, ix, s, d, z⟩, n⟩ = 0) (hF : allF f ⟨k, rc, rn, ⟨bc, bn, ic, ix, s, d, z⟩, n⟩ = L) (hx : aoutF ⟨k, rc, rn, ⟨bc, bn, ic, ix, s, d, z⟩, n⟩ = ⟨ck, crc, crn, ⟨c0, c1, c2, c3, c4, c5, c6⟩, 0⟩) (hk : argF ⟨k, rc, rn, ⟨bc, bn, ic, ix, s, d, z⟩, n⟩ = 0) (hL : Facts f (r) ⟨m0, m1, m2, m3, m4, m5, m6⟩ L) : (back_parts f k rc rn bc bn ic ix s d z n Aa Ab ca cb xa xb la lb cut L r ck crc crn c0 c1 c2 c3 c4 c5 c6 m0 m1 m2 m3 m4 m5 m6 w).1 := by
  have HT := hid ht
  have HA := hid (And.intro ha (And.intro hb (And.intro hla hlb)))
  have HE := hid (And.intro hE (And.intro hF (And.intro hx (And.intro hk hs))))
  have HL := hid hL
  have HC := hid hcut
  have HK := hid hkind
  have hle1 : ¬ (30 : Int) < (la : Int) := by omega
  have hle2 : ¬ (30 : Int) < (lb : Int) := by omega
  intro w1 w2 Z N hN1 hN9 g c' hle' hgl HZ n0 w3 K2 a2 W hcA z0 hgw HB2W wr u10 u17 u18 u19 u20 u22 u23 u24 o21 o66 o67 o68 o69 o70 o71 o72 o73 o74 o75 o76 o77 o78 o79 o80 o81 o82 o83 o84 o85 o86 o87 o88 o89 o90 o91 o92 o93 o94 o95 o96 o97 o98 o99 o100 o101 o102 o103 o104 o105 o106 o107 o108 o109 o110 o111 o112 o113 o114 o115 o116 o117 o118 o119 o120 o121 o122 o123 o124 o125 o126 o127 o128 o129 o130 o131 o132 o133 o134 o135 o136 o137 o138 o139 o140 o141 o142 o143 o144 o145 o146 o147 o148 o149 o150 o151 o152 o153 o154 o155 o156 o157 o158 o159 o160 o161 o162 o163 o164 o165 o166 o167 o168 o169 o170 o171 o172 o173 o174 o175 o176 o177 o178 o179 o180 o181 o182 o183 o184 o185 o186 o187 o188 o189 o190 o191 o192 o193 o194 o195 o196 o197 o198 o199 o200 o201 o202 o203 o204 o205 o206 o207 o208 o209 o210 o211 o212 o213 o214 o215 o216 o217 o218 o219 o220 o221 o222 o223 j hj HR hjn q kk bs yx yb n hkk hlen1 hlen6 HY i1 i2 hgr Qx Kx ax Ky ay w5 HP p0 pz wc u21 u66 u67 u68 u69 u70 u71 u72 u73 u74 u75 u76 u77 u78 u79 u80 u81 u82 u83 u84 u85 u86 u87 u88 u89 u90 u91 u92 u93 u94 u95 u96 u97 u98 u99 u100 u101 u102 u103 u104 u105 u106 u107 u108 u109 u110 u111 u112 u113 u114 u115 u116 u117 u118 u119 u120 u121 u122 u123 u124 u125 u126 u127 u128 u129 u130 u131 u132 u133 u134 u135 u136 u137 u138 u139 u140 u141 u142 u143 u144 u145 u146 u147 u148 u149 u150 u151 u152 u153 u154 u155 u156 u157 u158 u159 u160 u161 u162 u163 u164 u165 u166 u167 u168 u169 u170 u171 u172 u173 u174 u175 u176 u177 u178 u179 u180 u181 u182 u183 u184 u185 u186 u187 u188 u189 u190 u191 u192 u193 u194 u195 u196 u197 u198 u199 u200 u201 u202 u203 u204 u205 u206 u207 u208 u209 u210 u211 u212 u213 u214 u215 u216 u217 u218 u219 u220 u221 u222 u223 g18 hg18 hbx hblk
  clear ht ha hb hla hlb hE hF hx hk hL hs hcut hkind
  have hbW := hid ((HR.out.trans (HP.out.below.mono HR.out.size)).trans (hbx.out.mono (Nat.le_trans HR.out.size HP.out.below.size)))
  have q18 := hblk.out.c
  have q17 : ∀ j, wc.cell? ⟨wr.heap.size, j, none⟩ = (#[.slice (some ⟨q, 0, none⟩) n kk, .int .i64 yx, .int .i64 yb] : Array Value)[j]? := fun i => (hbx.out.cell (p := ⟨wr.heap.size, i, none⟩) pz).trans (p0 i)
  have q14 : ∀ j, wc.cell? ⟨w3.heap.size, j, none⟩ = (#[.int .i64 ck, .int .i64 crc, .int .i64 crn, .int .i64 c0, .int .i64 c1, .int .i64 c2, .int .i64 c3, .int .i64 c4, .int .i64 c5, .int .i64 c6, .int .i64 0] : Array Value)[j]? := fun i => (hbW.out.cell (p := ⟨w3.heap.size, i, none⟩) z0).trans (hcA i)
  have hzf : 0 < Z.length := by rw [HZ.out.2.1]; omega
  have hz0 : Z[0]? = some Z[0] := List.getElem?_eq_getElem hzf
  generalize Z[0] = y0 at hz0
  have hy0 : L[0]? = some y0.y := by rw [← HZ.out.1, List.getElem?_map, hz0]; rfl
  have hfl := HL.out.first _ hy0 _ HY.out.2.1
  obtain ⟨q0, kk0, bs0, yx0, yb0⟩ := y0
  have hrow0 := (row_at HZ.out.2.2.1 HZ.out.2.1 hz0).1
  simp only at hrow0 hfl
  rw [Nat.zero_mul] at hrow0
  have hB2c := HB2W.out.trans (hbW.out.mono HB2W.out.size)
  have q0c := (hB2c.cell (p := ⟨g, 0, none⟩) hgl).trans hrow0
  generalize bs0.length = n0 at hfl q0c
  rw [HY.out.2.2.1] at hfl
  have l1 : decide (n < n0) = false := by simp; omega
  have l2 : IntKind.i64.wrap ((la : Int) + (n : Int)) = (la : Int) + (n : Int) := IntWalk.i64_in _ (by omega)
  have l3 : (f != f) = false := by simp
  have l4 : ((la : Int) + (n : Int) != (la : Int) + (n : Int)) = false := by simp
  have l5 : (0 : Int) < (N : Int) := by omega
  have l6 : 0 < N := by omega
  have HQ := hid (And.intro hB2c hy0)
  have z14 : w3.heap.size < wc.heap.size := Nat.lt_of_lt_of_le z0 hbW.out.size
  have z17 : wr.heap.size < wc.heap.size := Nat.lt_of_lt_of_le pz hbx.out.size
  have z18 : g18 < wc.heap.size := hblk.out.lt
  have zg : g < wc.heap.size := Nat.lt_of_lt_of_le hgl hB2c.size
  clear hrow0 hB2c hz0 hzf hy0 hfl p0
  go_wp2_with fail
  go_quiet (fail)
  have hbd : Below wc.heap.size wc (wc.drewN nq) := bdrewN (Below.refl _ _) nq
  have hbW := hid (bdrewN hbW.out nq)
  have hbx := hid (bdrewN hbx.out nq)
  have hbk := hid (show BlkAt (wc.drewN nq) g18 _ _ from blk_drewN hblk.out nq)
  have q14 : ∀ j, (wc.drewN nq).cell? ⟨w3.heap.size, j, none⟩ = (#[.int .i64 ck, .int .i64 crc, .int .i64 crn, .int .i64 c0, .int .i64 c1, .int .i64 c2, .int .i64 c3, .int .i64 c4, .int .i64 c5, .int .i64 c6, .int .i64 0] : Array Value)[j]? := q14
  have q17 : ∀ j, (wc.drewN nq).cell? ⟨wr.heap.size, j, none⟩ = (#[.slice (some ⟨q, 0, none⟩) n kk, .int .i64 yx, .int .i64 yb] : Array Value)[j]? := q17
  have q18 := hbk.out.c
  have z14 : w3.heap.size < (wc.drewN nq).heap.size := z14
  have z17 : wr.heap.size < (wc.drewN nq).heap.size := z17
  have z18 : g18 < (wc.drewN nq).heap.size := z18
  have zg : g < (wc.drewN nq).heap.size := zg
  have HQ := hid (And.intro (bdrewN HQ.out.1 nq) HQ.out.2)
  clear l2 l3 l4 q0c hblk hbd
  generalize wc.drewN nq = wd at *
  go_upto_region 17 with fail
  have HWe := hid ((Below.refl wd.heap.size wd).alloc (Nat.le_refl _) (.cells #[.int .i64 c0, .int .i64 c1, .int .i64 c2, .int .i64 c3, .int .i64 c4, .int .i64 c5, .int .i64 0] 25))
  have HBe := hid (BlkAt.c (blk_new (w := wd) (b := wd.heap.size) (cs := #[.int .i64 c0, .int .i64 c1, .int .i64 c2, .int .i64 c3, .int .i64 c4, .int .i64 c5, .int .i64 0]) (t := 25) rfl))
  have hze : wd.heap.size < (wd.alloc (.cells #[.int .i64 c0, .int .i64 c1, .int .i64 c2, .int .i64 c3, .int .i64 c4, .int .i64 c5, .int .i64 0] 25)).heap.size := by simp
  generalize wd.alloc (.cells #[.int .i64 c0, .int .i64 c1, .int .i64 c2, .int .i64 c3, .int .i64 c4, .int .i64 c5, .int .i64 0] 25) = we at *
  have e20 := HBe.out
  have e14 : ∀ j, we.cell? ⟨w3.heap.size, j, none⟩ = (#[.int .i64 ck, .int .i64 crc, .int .i64 crn, .int .i64 c0, .int .i64 c1, .int .i64 c2, .int .i64 c3, .int .i64 c4, .int .i64 c5, .int .i64 c6, .int .i64 0] : Array Value)[j]? := fun i => (HWe.out.cell (p := ⟨w3.heap.size, i, none⟩) z14).trans (q14 i)
  have e17 : ∀ j, we.cell? ⟨wr.heap.size, j, none⟩ = (#[.slice (some ⟨q, 0, none⟩) n kk, .int .i64 yx, .int .i64 yb] : Array Value)[j]? := fun i => (HWe.out.cell (p := ⟨wr.heap.size, i, none⟩) z17).trans (q17 i)
  have e18 : ∀ j, we.cell? ⟨g18, j, none⟩ = (#[.int .i64 f, .int .i64 (r), .int .i64 m0, .int .i64 m1, .int .i64 m2, .int .i64 m3, .int .i64 m4, .int .i64 m5, .int .i64 m6, .int .i64 ((la : Int) + (n : Int))] : Array Value)[j]? := fun i => (HWe.out.cell (p := ⟨g18, i, none⟩) z18).trans (q18 i)
  have y17 : wr.heap.size < we.heap.size := Nat.lt_of_lt_of_le z17 HWe.out.size
  have hbx := hid (hbx.out.trans (HWe.out.mono hbx.out.size))
  have hbW := hid (hbW.out.trans (HWe.out.mono hbW.out.size))
  have HQ := hid (And.intro (HQ.out.1.trans (HWe.out.mono HQ.out.1.size)) HQ.out.2)
  clear q14 q17 q18 z14 z17 z18 zg hbk
  go_cut [158] (fun s158 wx => s158 = .bool false ∧ wx = we)
  case first =>
    rcases HK.out with ⟨k1, k2, t0, t1, t2, t3, t4, t5, t6⟩ | ⟨k1, k2, t0, t1, t2, t3, t4, t5, t6⟩
    · have a1 : (ck == 1) = true := by simp [k1]
      have a2 : (ck == 2) = false := by simp [k1]
      have a3 : (r != crn) = false := by simp [k2]
      have a4 : ∀ w, (binOp .neq 25 (.agg #[.int .i64 m0, .int .i64 m1, .int .i64 m2, .int .i64 m3, .int .i64 m4, .int .i64 m5, .int .i64 m6]) (.agg #[.int .i64 0, .int .i64 0, .int .i64 0, .int .i64 0, .int .i64 0, .int .i64 0, .int .i64 0])).run Tryd.prog w = .ok (.bool false) w := fun w => by subst t0 t1 t2 t3 t4 t5 t6; exact run_neq_mem_same ⟨0, 0, 0, 0, 0, 0, 0⟩ w
      clear k1 k2 t0 t1 t2 t3 t4 t5 t6
      go_wp2_with fail
      go_meet
      exact ⟨rfl, rfl⟩
    · have a1 : (ck == 1) = false := by simp [k1]
      have a2 : (ck == 2) = true := by simp [k1]
      have a3 : (r != -1) = false := by simp [k2]
      have a4 : ∀ w, (binOp .neq 25 (.agg #[.int .i64 m0, .int .i64 m1, .int .i64 m2, .int .i64 m3, .int .i64 m4, .int .i64 m5, .int .i64 m6]) (.agg #[.int .i64 c0, .int .i64 c1, .int .i64 c2, .int .i64 c3, .int .i64 c4, .int .i64 c5, .int .i64 0])).run Tryd.prog w = .ok (.bool false) w := fun w => by rw [t0, t1, t2, t3, t4, t5, t6]; exact run_neq_mem_same ⟨c0, c1, c2, c3, c4, c5, 0⟩ w
      clear k1 k2 t0 t1 t2 t3 t4 t5 t6
      go_wp2_with fail
      go_meet
      exact ⟨rfl, rfl⟩
  case rest =>
    obtain ⟨rfl, rfl⟩ := hcut
    clear e14 e18 e20 HBe
    obtain ⟨pn, hpn⟩ : ∃ pn : Nat, cut % (n : Int) = (pn : Int) := ⟨(cut % (n : Int)).toNat, by have := Int.emod_nonneg cut (show (n : Int) ≠ 0 by omega); omega⟩
    have hpl : pn < n := by have := Int.emod_lt_of_pos cut (show (0 : Int) < (n : Int) by omega); omega
    have HPN := hid hpn
    clear hpn
    have j0 : (0 : Int) ≤ (pn : Int) := by omega
    have j1 : (pn : Int) ≤ (kk : Int) := by omega
    have j2 : pn ≤ kk := by omega
    have j3 : pn ≤ 1000000 := by omega
    have HMX := hid (((HY.out.2.2.2.below HP.out.below).mono HP.out.below.size).below hbx.out)
    have hw5 : w5.heap.size ≤ wc.heap.size := hbx.out.size
    have HMX := hid ((HMX.out.mono hw5).take pn)
    have HRC := hid (show readA (bs.take pn) 0 yx yb = (9, zeroS, 0) from HL.out.cut HY.out.2.1 (by rw [HY.out.2.2.1]; exact hpl))
    have htk : (bs.take pn).length = pn := by rw [List.length_take, HY.out.2.2.1]; omega
    have HTK := hid htk
    clear htk hw5
    obtain ⟨wm, rfl⟩ : ∃ wm : World, wm = wc := ⟨_, rfl⟩
    go_upto_region 19 with fail
    go_cut [21, 22] (fun s21 s22 wx => s22 = .int .i64 9 ∧ Hid (Below wm.heap.size wm wx))
    case first =>
      go_region_held3 (fun w' => Below wm.heap.size wm w' ∧ ∀ b o, b < wm.heap.size → w'.cell? ⟨b, o, none⟩ = wm.cell? ⟨b, o, none⟩) (first | with_reducible assumption | with_reducible exact Old.of (Below.refl wm.heap.size wm) | with_reducible exact old_drew (Old.of (Below.refl wm.heap.size wm)) | with_reducible exact old_drew (old_alloc (Old.of (Below.refl wm.heap.size wm)) _) | ((with_reducible refine old_drew ?_); with_reducible assumption) | ((with_reducible refine old_kept ?_ (by with_reducible assumption)); with_reducible assumption) | ((with_reducible refine old_alloc ?_ _); first | with_reducible assumption | with_reducible exact Old.of (Below.refl wm.heap.size wm) | with_reducible exact old_drew (Old.of (Below.refl wm.heap.size wm))) | ((repeat with_reducible refine old_set ?_ _ _ (by first | omega | (simp; done) | (simp; omega))); first | with_reducible assumption | ((with_reducible refine old_alloc ?_ _); with_reducible assumption)) | fail) (first | (go_at_call 23; (refine (pick_of HPN.out hlen1 hlen6 _).mono ?_); rintro e w6 ⟨rfl, rfl⟩) | (go_at_call 14; (refine (mread_of HRC.out _ pn kk _ HTK.out j2 j3 ((HMX.out.below (show Below wm.heap.size wm _ ∧ ∀ b o, b < wm.heap.size → World.cell? _ ⟨b, o, none⟩ = wm.cell? ⟨b, o, none⟩ by with_reducible assumption).1).mono (show Below wm.heap.size wm _ ∧ ∀ b o, b < wm.heap.size → World.cell? _ ⟨b, o, none⟩ = wm.cell? ⟨b, o, none⟩ by with_reducible assumption).1.size)).mono ?_); rintro e w9 ⟨rfl, hb9⟩; have hS9 := old_kept (show Below wm.heap.size wm _ ∧ ∀ b o, b < wm.heap.size → World.cell? _ ⟨b, o, none⟩ = wm.cell? ⟨b, o, none⟩ by with_reducible assumption) hb9; have hs9 := hS9.1.size; (try (have hk : BlkAt w9 wm.heap.size #[.int .i64 0, .int .i64 0, .int .i64 0, .int .i64 0, .int .i64 0, .int .i64 0, .int .i64 0, .int .i64 0, .int .i64 0, .int .i64 0] 41 := (by refine blk_call ?_ hb9; (first | with_reducible assumption | with_reducible exact blk_new rfl | with_reducible exact blk_drew (blk_new rfl) | fail)); have hkc := hk.c; have hkf := hk.f; have hkz := hk.lt))) | fail)
      all_goals
        go_wp2_with fail
        go_meet
        exact ⟨rfl, hid (show Below wm.heap.size wm _ ∧ ∀ b o, b < wm.heap.size → World.cell? _ ⟨b, o, none⟩ = wm.cell? ⟨b, o, none⟩ by with_reducible assumption).1⟩
    case rest =>
      obtain ⟨rfl, hbz⟩ := hcut
      obtain ⟨wz, rfl⟩ : ∃ wz : World, wz = wc := ⟨_, rfl⟩
      have t17 : ∀ j, wz.cell? ⟨wr.heap.size, j, none⟩ = (#[.slice (some ⟨q, 0, none⟩) n kk, .int .i64 yx, .int .i64 yb] : Array Value)[j]? := fun i => (hbz.out.cell (p := ⟨wr.heap.size, i, none⟩) y17).trans (e17 i)
      have s17 : wr.heap.size < wz.heap.size := Nat.lt_of_lt_of_le y17 hbz.out.size
      have hbW := hid (hbW.out.trans (hbz.out.mono hbW.out.size))
      have HQ := hid (And.intro (HQ.out.1.trans (hbz.out.mono HQ.out.1.size)) HQ.out.2)
      have hw5 : w5.heap.size ≤ wz.heap.size := Nat.le_trans hbx.out.size hbz.out.size
      have hbx := hid (hbx.out.trans (hbz.out.mono hbx.out.size))
      have HMX := hid ((((HY.out.2.2.2.below HP.out.below).mono HP.out.below.size).below hbx.out).mono hw5)
      have s1 : (g : Nat) < wz.heap.size := Nat.lt_of_lt_of_le hgl HQ.out.1.size
      clear e17 y17 hw5 HRC HTK HPN j0 j1 j2 j3 hpl
      obtain ⟨wo, rfl⟩ : ∃ wo : World, wo = wr := ⟨_, rfl⟩
      go_wp2_with fail
      go_loopw [23] (fun i wj => ∃ m : Nat, m ≤ N ∧ i = .int .i64 m ∧ Below wz.heap.size wz wj) (fun i _ => N - (intOf i).toNat)
      case atStart => exact ⟨0, by omega, rfl, Below.refl _ _⟩
      case round =>
        obtain ⟨m, hm, rfl, hbj⟩ := hrel
        have HJ := hid hbj
        clear hbj
        by_cases hmn : m < N
        · have hmz : m < Z.length := by rw [HZ.out.2.1]; omega
          have hzm : Z[m]? = some Z[m] := List.getElem?_eq_getElem hmz
          generalize Z[m] = x2 at hzm
          have hym : L[m]? = some x2.y := by rw [← HZ.out.1, List.getElem?_map, hzm]; rfl
          have hwm := (HZ.out.2.2.2.1 _ (List.mem_of_getElem? hzm)).2
          have hrm := row_at HZ.out.2.2.1 HZ.out.2.1 hzm
          have hB2j := HQ.out.1.trans (HJ.out.mono HQ.out.1.size)
          have hMm : Mem wr wr.heap.size (some ⟨x2.g, 0, none⟩) x2.y.bs := hwm.below (HL.out.bytes _ (List.mem_of_getElem? hym)) hB2j hB2j.size
          obtain ⟨zs, -, -, -, hk2, -⟩ := hwm
          obtain ⟨q2, k2, bs2, zx, zb⟩ := x2
          simp only at hym hrm hMm hk2
          have v0 := (hB2j.cell (p := ⟨g, m * 3, none⟩) hgl).trans hrm.1
          have v1 := (hB2j.cell (p := ⟨g, m * 3 + 1, none⟩) hgl).trans hrm.2.1
          have v2 := (hB2j.cell (p := ⟨g, m * 3 + 2, none⟩) hgl).trans hrm.2.2
          obtain ⟨n2, hn2⟩ : ∃ n2, bs2.length = n2 := ⟨_, rfl⟩
          simp only [hn2] at hk2 v0
          have u1 : (0 : Int) ≤ (m : Int) := by omega
          have u2 : (m : Int) < (N : Int) := by omega
          have HV := hid (And.intro hym (And.intro hn2 hMm))
          have r17 : ∀ j, wr.cell? ⟨wo.heap.size, j, none⟩ = (#[.slice (some ⟨q, 0, none⟩) n kk, .int .i64 yx, .int .i64 yb] : Array Value)[j]? := fun i => (HJ.out.cell (p := ⟨wo.heap.size, i, none⟩) s17).trans (t17 i)
          have r0 : wo.heap.size < wr.heap.size := Nat.lt_of_lt_of_le s17 HJ.out.size
          have r1 : g < wr.heap.size := Nat.lt_of_lt_of_le s1 HJ.out.size
          clear hym hn2 hMm hrm hB2j hzm hmz zs t17
          go_upto_region 26 with fail
          have HW7 := hid ((Below.refl wr.heap.size wr).alloc (Nat.le_refl _) (.cells #[.slice (some ⟨q2, 0, none⟩) n2 k2, .int .i64 zx, .int .i64 zb] 34))
          have HB7 := hid (BlkAt.c (blk_new (w := wr) (b := wr.heap.size) (cs := #[.slice (some ⟨q2, 0, none⟩) n2 k2, .int .i64 zx, .int .i64 zb]) (t := 34) rfl))
          generalize wr.alloc (.cells #[.slice (some ⟨q2, 0, none⟩) n2 k2, .int .i64 zx, .int .i64 zb] 34) = w7 at *
          have b24 := HB7.out
          have b17 : ∀ j, w7.cell? ⟨wo.heap.size, j, none⟩ = (#[.slice (some ⟨q, 0, none⟩) n kk, .int .i64 yx, .int .i64 yb] : Array Value)[j]? := fun i => (HW7.out.cell (p := ⟨wo.heap.size, i, none⟩) r0).trans (r17 i)
          clear r17 v0 v1 v2
          go_cut [223] (fun s223 wx => s223 = .bool false ∧ Hid (Below w7.heap.size w7 wx))
          case first =>
            by_cases h1 : m = j
            · have g1 : ((m : Int) != (j : Int)) = false := by simp [h1]
              clear h1
              go_quiet (fail)
              go_wp2_with fail
              go_meet
              exact ⟨rfl, hid (bdrewN (Below.refl _ _) _)⟩
            · have g1 : ((m : Int) != (j : Int)) = true := by simp; omega
              by_cases h2 : (yx == zx) = true
              · by_cases h3 : (yb == zb) = true
                · by_cases h4 : n ≤ n2
                  · have g4 : decide (n ≤ n2) = true := by simp; exact h4
                    have HFR := hid (show decide (bs = bs2.take n) = false by have := HL.out.free HY.out.1 HV.out.1 h1 (by simpa using h2) (by simpa using h3); simp only at this; rwa [HY.out.2.2.1] at this)
                    have HM1 := hid ((HMX.out.below HJ.out).below (HW7.out.mono HJ.out.size))
                    have HM2 := hid (((HV.out.2.2.below HW7.out).mono HW7.out.size).take n)
                    have htn : (bs2.take n).length = n := by rw [List.length_take, HV.out.2.1]; omega
                    have HTN := hid htn
                    have b1 : (0 : Int) ≤ (n : Int) := by omega
                    have b2 : (n : Int) ≤ (k2 : Int) := by omega
                    have b3 : n ≤ k2 := by omega
                    clear h1 htn
                    go_quiet ((go_at_call 10; exact Calls.quiet_of_same (same_told HFR.out (HM1.out.drewN _) (HM2.out.drewN _) HY.out.2.2.1 HTN.out)))
                    go_wp2_with fail
                    go_meet
                    exact ⟨rfl, hid (bdrewN (Below.refl _ _) _)⟩
                  · have g4 : decide (n ≤ n2) = false := by simp; omega
                    clear h1 h4
                    go_quiet (fail)
                    go_wp2_with fail
                    go_meet
                    exact ⟨rfl, hid (bdrewN (Below.refl _ _) _)⟩
                · have g3 : (yb == zb) = false := by simpa using h3
                  clear h1 h3
                  go_quiet (fail)
                  go_wp2_with fail
                  go_meet
                  exact ⟨rfl, hid (bdrewN (Below.refl _ _) _)⟩
              · have g2 : (yx == zx) = false := by simpa using h2
                clear h1 h2
                go_quiet (fail)
                go_wp2_with fail
                go_meet
                exact ⟨rfl, hid (bdrewN (Below.refl _ _) _)⟩
          case rest =>
            obtain ⟨rfl, hbe⟩ := hcut
            have HE7 := hid (HJ.out.trans ((HW7.out.trans (hbe.out.mono HW7.out.size)).mono HJ.out.size))
            clear b24 b17
            go_wp2_with fail
            go_roundw
            case rel => exact ⟨m + 1, by omega, by go_num, HE7.out⟩
            case measure => simp [intOf]; omega
        · clear t17
          go_wp2_with fail
          go_roundw
          case rel => exact ⟨j + 1, by omega, by go_num, hbW.out.trans (HJ.out.mono hbW.out.size)⟩
          case measure => simp [intOf]; omega
theorem back_in (f k rc rn bc bn ic ix s d z n : Int) (Aa Ab : Option Addr) (ca cb : Nat) (xa xb : List Int) (la lb : Nat) (cut : Int) (L : List Way) (r ck crc crn c0 c1 c2 c3 c4 c5 c6 m0 m1 m2 m3 m4 m5 m6 : Int) (hkind : ck = 1 ∧ r = crn ∧ m0 = 0 ∧ m1 = 0 ∧ m2 = 0 ∧ m3 = 0 ∧ m4 = 0 ∧ m5 = 0 ∧ m6 = 0 ∨ ck = 2 ∧ r = -1 ∧ m0 = c0 ∧ m1 = c1 ∧ m2 = c2 ∧ m3 = c3 ∧ m4 = c4 ∧ m5 = c5 ∧ m6 = 0) (w : World) (ht : Tz w) (hs : I64 s) (hcut : I64 cut)
    (ha : Mem w w.heap.size Aa xa) (hb : Mem w w.heap.size Ab xb) (hla : xa.length = la) (hlb : xb.length = lb) (h30a : la ≤ 30) (h30b : lb ≤ 30)
    (hE : allE f ⟨k, rc, rn, ⟨bc, bn, ic, ix, s, d, z⟩, n⟩ = 0) (hF : allF f ⟨k, rc, rn, ⟨bc, bn, ic, ix, s, d, z⟩, n⟩ = L) (hx : aoutF ⟨k, rc, rn, ⟨bc, bn, ic, ix, s, d, z⟩, n⟩ = ⟨ck, crc, crn, ⟨c0, c1, c2, c3, c4, c5, c6⟩, 0⟩) (hk : argF ⟨k, rc, rn, ⟨bc, bn, ic, ix, s, d, z⟩, n⟩ = 0) (hL : Facts f (r) ⟨m0, m1, m2, m3, m4, m5, m6⟩ L) :
    Calls Tryd.prog 6 #[.int .i64 f, .agg #[.int .i64 k, .int .i64 rc, .int .i64 rn, .int .i64 bc, .int .i64 bn, .int .i64 ic, .int .i64 ix, .int .i64 s, .int .i64 d, .int .i64 z, .int .i64 n], .slice Aa la ca, .slice Ab lb cb, .int .i64 cut] w fun e w' => e = .returned (.bool true) ∧ Below w.heap.size w w' :=
  (back_parts f k rc rn bc bn ic ix s d z n Aa Ab ca cb xa xb la lb cut L r ck crc crn c0 c1 c2 c3 c4 c5 c6 m0 m1 m2 m3 m4 m5 m6 w).2 (hid (back_rest f k rc rn bc bn ic ix s d z n Aa Ab ca cb xa xb la lb cut L r ck crc crn c0 c1 c2 c3 c4 c5 c6 m0 m1 m2 m3 m4 m5 m6 w hkind ht hs hcut ha hb hla hlb h30a h30b hE hF hx hk hL)) hkind ht hs hcut ha hb hla hlb h30a h30b hE hF hx hk hL
end Go.Proofs.YtiiepdgpnnjpiaaDoor
