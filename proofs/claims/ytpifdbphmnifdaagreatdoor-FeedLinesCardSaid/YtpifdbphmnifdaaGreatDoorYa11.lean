/-
  Facts about the program that the statement's proof uses. Condition: none beyond each theorem's own hypotheses.
-/
import Derived.Test.YtpifdbphmnifdaaGreatDoorRows
import Derived.WalkKit
import Derived.WalkSpells
import Derived.WalkLawsBesides
import Derived.ShutString
import Derived.Laws.RangeString
import Derived.Laws.RangeAny
import Derived.Laws.BytesArg
import Derived.LoopN
import Derived.Deep.RegionHeld3
import Derived.Test.YtpifdbphmnifdaaGreatDoorYa0
import Derived.Test.YtpifdbphmnifdaaGreatDoorYa3
import Derived.Test.YtpifdbphmnifdaaGreatDoorYa10
set_option maxRecDepth 100000
set_option maxHeartbeats 8000000
namespace Go.Proofs.YtpifdbphmnifdaaGreatDoor
open Go.RowKit
theorem valid_yes (t:Int) (h0:0≤t) (h1:t≤172800) (w:World) :
  Calls Tryz.prog 344 #[.int .i64 t] w fun e w'=>e = .returned (.bool true)∧w = w':=by
 go_enter Tryz.func344,Tryz.ntmps344
 go_wp2
 go_ret
 exact ⟨rfl,rfl⟩
theorem valid_no (t:Int) (h:t < 0∨172800 < t) (w:World) :
  Calls Tryz.prog 344 #[.int .i64 t] w fun e w'=>e = .returned (.bool false)∧w = w':=by
 rcases h with h | h
 ·go_enter Tryz.func344,Tryz.ntmps344
  go_wp2
  go_ret
  exact ⟨rfl,rfl⟩
 ·have h0:0≤t:=by omega
  have hd:decide (t≤172800) = false:=by simp; omega
  go_enter Tryz.func344,Tryz.ntmps344
  go_wp2
  go_ret
  exact ⟨rfl,rfl⟩
theorem divide_any (t:Int) (h0:0≤t) (h1:t≤359999) (w:World) :
  Calls Tryz.prog 302 #[.int .i64 t] w fun e w'=>e = .returned (.tuple #[.int .i64 (t / 3600),.int .i64 (t % 3600 / 60),.int .i64 (t % 60)])∧w = w':=by
 go_enter Tryz.func302,Tryz.ntmps302
 go_wp2
 go_ret3
 exact ⟨rfl,rfl⟩
theorem combine_any (h m s:Int) (h0:0≤h) (h1:h≤99) (m0:0≤m) (m1:m≤99) (s0:0≤s) (s1:s≤99) (w:World) :
  Calls Tryz.prog 354 #[.int .i64 h,.int .i64 m,.int .i64 s] w fun e w'=>e = .returned (.int .i64 (h * 3600 + m * 60 + s))∧w = w':=by
 go_enter Tryz.func354,Tryz.ntmps354
 go_wp2
 go_ret
 exact ⟨rfl,rfl⟩
theorem sixtieth_yes (n:Int) (h0:0≤n) (h1:n < 60) (w:World) :
  Calls Tryz.prog 353 #[.int .i64 n] w fun e w'=>e = .returned (.bool true)∧w = w':=by
 go_enter Tryz.func353,Tryz.ntmps353
 go_wp2
 go_ret
 exact ⟨rfl,rfl⟩
theorem sixtieth_no (n:Int) (h:n < 0∨60≤n) (w:World) :
  Calls Tryz.prog 353 #[.int .i64 n] w fun e w'=>e = .returned (.bool false)∧w = w':=by
 rcases h with h | h
 ·go_enter Tryz.func353,Tryz.ntmps353
  go_wp2
  go_ret
  exact ⟨rfl,rfl⟩
 ·have h0:0≤n:=by omega
  have hd:decide (n < 60) = false:=by simp; omega
  go_enter Tryz.func353,Tryz.ntmps353
  go_wp2
  go_ret
  exact ⟨rfl,rfl⟩
theorem split_yes (t:Int) (h0:0≤t) (h1:t≤172800) (w:World) :
  Calls Tryz.prog 299 #[.int .i64 t] w fun e w'=>e = .returned (.tuple #[.int .i64 (t / 3600),.int .i64 (t % 3600 / 60),.int .i64 (t % 60),.bool true])∧w = w':=by
 go_enter Tryz.func299,Tryz.ntmps299
 go_wp2_with (first | (go_at_call 344; refine (valid_yes _ (by omega) (by omega) _).mono ?_; rintro e w' ⟨rfl,rfl⟩) | (go_at_call 302; refine (divide_any _ (by omega) (by omega) _).mono ?_; rintro e w' ⟨rfl,rfl⟩))
 refine bodyPost_ret (results_tmp4 rfl _ _ _) rfl ?_
 exact ⟨rfl,rfl⟩
theorem join_yes (h m s:Int) (hp:Parts h m s) (w:World) :
  Calls Tryz.prog 321 #[.int .i64 h,.int .i64 m,.int .i64 s] w fun e w'=>e = .returned (.tuple #[.int .i64 (h * 3600 + m * 60 + s),.bool true])∧w = w':=by
 obtain ⟨h0,h1,m0,m1,s0,s1,ht⟩:=hp
 go_enter Tryz.func321,Tryz.ntmps321
 go_wp2_with (first | (go_at_call 353; refine (sixtieth_yes _ (by omega) (by omega) _).mono ?_; rintro e w' ⟨rfl,rfl⟩) | (go_at_call 354; refine (combine_any _ _ _ (by omega) (by omega) (by omega) (by omega) (by omega) (by omega) _).mono ?_; rintro e w' ⟨rfl,rfl⟩) | (go_at_call 344; refine (valid_yes _ (by omega) (by omega) _).mono ?_; rintro e w' ⟨rfl,rfl⟩))
 go_ret2
 exact ⟨rfl,rfl⟩
theorem join_no (h m s:Int) (hp:¬ Parts h m s) (w:World) :
  Calls Tryz.prog 321 #[.int .i64 h,.int .i64 m,.int .i64 s] w fun e w'=>e = .returned (.tuple #[.int .i64 0,.bool false])∧w = w':=by
 unfold Parts at hp
 by_cases h0:h < 0
 ·go_enter Tryz.func321,Tryz.ntmps321
  go_wp2_with fail
  go_ret2
  exact ⟨rfl,rfl⟩
 by_cases h1:48 < h
 ·go_enter Tryz.func321,Tryz.ntmps321
  go_wp2_with fail
  go_ret2
  exact ⟨rfl,rfl⟩
 by_cases hm:m < 0∨60≤m
 ·go_enter Tryz.func321,Tryz.ntmps321
  go_wp2_with (go_at_call 353; refine (sixtieth_no _ (by omega) _).mono ?_; rintro e w' ⟨rfl,rfl⟩)
  go_ret2
  exact ⟨rfl,rfl⟩
 by_cases hs:s < 0∨60≤s
 ·go_enter Tryz.func321,Tryz.ntmps321
  go_wp2_with (first | (go_at_call 353; refine (sixtieth_yes _ (by omega) (by omega) _).mono ?_; rintro e w' ⟨rfl,rfl⟩) | (go_at_call 353; refine (sixtieth_no _ (by omega) _).mono ?_; rintro e w' ⟨rfl,rfl⟩))
  go_ret2
  exact ⟨rfl,rfl⟩
 ·go_enter Tryz.func321,Tryz.ntmps321
  go_wp2_with (first | (go_at_call 353; refine (sixtieth_yes _ (by omega) (by omega) _).mono ?_; rintro e w' ⟨rfl,rfl⟩) | (go_at_call 354; refine (combine_any _ _ _ (by omega) (by omega) (by omega) (by omega) (by omega) (by omega) _).mono ?_; rintro e w' ⟨rfl,rfl⟩) | (go_at_call 344; refine (valid_no _ (by omega) _).mono ?_; rintro e w' ⟨rfl,rfl⟩))
  go_ret2
  exact ⟨rfl,rfl⟩
theorem join_flat (xs:List (List UInt8)):Lib.join xs [] = xs.flatten:=by
 simp [Lib.join,List.intercalate]
 induction xs with
 | nil=>rfl
 | cons a t ih=>cases t <;> simp_all [List.intersperse]
theorem concat_any (bk c:Nat) (xs:List ByteArray) (w:World) (hcells:∀ (j:Nat) x,xs[j]? = some x→w.cell? ⟨bk,0 + j,none⟩ = some (.string x)) (hbk:bk < w.heap.size)
  (hN:xs.length≤100) (hcap:xs.length≤c) (hlen:(xs.map (·.data.toList)).flatten.length≤1000) :
  Calls Tryz.prog 300 #[.slice (some ⟨bk,0,none⟩) xs.length c] w fun e w'=>e = .returned (.string (str (xs.map (·.data.toList)).flatten))∧Below w.heap.size w w':=by
 have hj:=Tryz.strings_Join bk 0 c xs ⟨#[]⟩ w hcells hbk (by omega) hcap (by show (Lib.join _ []).length≤_; rw [join_flat]; omega)
 have he:Lib.join (xs.map (·.data.toList)) (⟨#[]⟩:ByteArray).data.toList = (xs.map (·.data.toList)).flatten:=join_flat _
 rw [he] at hj
 have H:=Lib.hid hj
 clear hj he hcells hlen
 go_enter Tryz.func300,Tryz.ntmps300
 go_wp2_with (go_at_call 133; refine H.out.mono ?_; rintro e w' ⟨rfl,hb⟩)
 go_ret
 exact ⟨rfl,hb⟩
theorem itoa_any (x:Int) (h0:0≤x) (h1:x < 100) (w:World) :
  Calls Tryz.prog 297 #[.int .i64 x] w fun e w'=>e = .returned (.string (str (dec x)))∧w = w':=by
 obtain ⟨n,rfl⟩:∃ n:Nat,x = n:=⟨x.toNat,by omega⟩
 exact (Tryz.strconv_Itoa_small n (by omega) w).mono fun _ _ ⟨he,hw⟩=>⟨he,hw.symm⟩
theorem concatN (xs:List (List UInt8)) (hN:xs.length≤100) (hlen:xs.flatten.length≤1000) (w:World) :
  Calls Tryz.prog 300 #[.slice (some ⟨w.heap.size,0,none⟩) xs.length xs.length] (w.alloc (.cells (xs.map fun l=>Value.string (str l)).toArray 9)) fun e w'=>e = .returned (.string (str xs.flatten))∧Below w.heap.size w w':=by
 have hm:(xs.map str).map (·.data.toList) = xs:=by simp [Function.comp_def]
 have h:=concat_any w.heap.size xs.length (xs.map str) (w.alloc (.cells (xs.map fun l=>Value.string (str l)).toArray 9)) (by
  intro j x hx
  simp only [List.getElem?_map,Option.map_eq_some_iff] at hx
  obtain ⟨l,hl,rfl⟩:=hx
  rw [Nat.zero_add,World.cell?_alloc_new]
  simp [hl]) (by simp) (by simpa using hN) (by simp) (by rw [hm]; exact hlen)
 rw [hm,List.length_map] at h
 exact h.mono fun e w' ⟨he,hb⟩=>⟨he,((Below.refl _ _).alloc (Nat.le_refl _) _).trans (hb.mono (by simp))⟩
theorem concat2 (a b:List UInt8) (ha:a.length≤100) (hb:b.length≤100) (w:World) :
  Calls Tryz.prog 300 #[.slice (some ⟨w.heap.size,0,none⟩) 2 2] (w.alloc (.cells #[.string (str a),.string (str b)] 9)) fun e w'=>e = .returned (.string (str (a ++ b)))∧Below w.heap.size w w':=by
 have h:=concatN [a,b] (by simp) (by simp; omega) w
 exact h.mono fun e w' ⟨he,hb⟩=>⟨by rw [he]; simp,hb⟩
theorem concat4 (a b c d:List UInt8) (ha:a.length≤100) (hb:b.length≤100) (hc:c.length≤100) (hd:d.length≤100) (w:World) :
  Calls Tryz.prog 300 #[.slice (some ⟨w.heap.size,0,none⟩) 4 4] (w.alloc (.cells #[.string (str a),.string (str b),.string (str c),.string (str d)] 9)) fun e w'=>e = .returned (.string (str (a ++ b ++ c ++ d)))∧Below w.heap.size w w':=by
 have h:=concatN [a,b,c,d] (by simp) (by simp; omega) w
 exact h.mono fun e w' ⟨he,hb⟩=>⟨by rw [he]; simp,hb⟩
theorem concat5 (a b c d f:List UInt8) (ha:a.length≤100) (hb:b.length≤100) (hc:c.length≤100) (hd:d.length≤100) (hf:f.length≤100) (w:World) :
  Calls Tryz.prog 300 #[.slice (some ⟨w.heap.size,0,none⟩) 5 5] (w.alloc (.cells #[.string (str a),.string (str b),.string (str c),.string (str d),.string (str f)] 9)) fun e w'=>e = .returned (.string (str (a ++ b ++ c ++ d ++ f)))∧Below w.heap.size w w':=by
 have h:=concatN [a,b,c,d,f] (by simp) (by simp; omega) w
 exact h.mono fun e w' ⟨he,hb⟩=>⟨by rw [he]; simp,hb⟩
theorem concat6 (a b c d f g:List UInt8) (ha:a.length≤100) (hb:b.length≤100) (hc:c.length≤100) (hd:d.length≤100) (hf:f.length≤100) (hg:g.length≤100) (w:World) :
  Calls Tryz.prog 300 #[.slice (some ⟨w.heap.size,0,none⟩) 6 6] (w.alloc (.cells #[.string (str a),.string (str b),.string (str c),.string (str d),.string (str f),.string (str g)] 9)) fun e w'=>e = .returned (.string (str (a ++ b ++ c ++ d ++ f ++ g)))∧Below w.heap.size w w':=by
 have h:=concatN [a,b,c,d,f,g] (by simp) (by simp; omega) w
 exact h.mono fun e w' ⟨he,hb⟩=>⟨by rw [he]; simp,hb⟩
theorem twoDigits_any (x:Int) (h0:0≤x) (h1:x < 100) (w:World) :
  Calls Tryz.prog 301 #[.int .i64 x] w fun e w'=>e = .returned (.string (str (two x)))∧Below w.heap.size w w':=by
 have l1:=dec_len (x / 10) (by omega)
 have l2:=dec_len (x % 10) (by omega)
 go_enter Tryz.func301,Tryz.ntmps301
 go_wp2_with (first | (go_at_call 297; refine (itoa_any _ (by omega) (by omega) _).mono ?_; rintro e w' ⟨rfl,rfl⟩) | (go_at_call 300; refine (concat2 _ _ (by omega) (by omega) _).mono ?_; rintro e w' ⟨rfl,hb⟩))
 go_ret
 exact ⟨by rw [← dec_two x h0 h1]; rfl,hb⟩
theorem format_yes (t:Int) (h0:0≤t) (h1:t≤172800) (w:World) :
  Calls Tryz.prog 223 #[.int .i64 t] w fun e w'=>e = .returned (.tuple #[.string (str (timeText t)),.int .i64 0])∧Below w.heap.size w w':=by
 go_enter Tryz.func223,Tryz.ntmps223
 go_wp2_with (go_at_call 299; refine (split_yes _ h0 h1 _).mono ?_; rintro e w' ⟨rfl,rfl⟩)
 go_wp2_with fail
 refine (twoDigits_any (t / 3600) (by omega) (by omega) _).mono ?_
 rintro e w1 ⟨rfl,b1⟩
 go_wp2_with fail
 refine (twoDigits_any (t % 3600 / 60) (by omega) (by omega) _).mono ?_
 rintro e w2 ⟨rfl,b2⟩
 go_wp2_with fail
 refine (twoDigits_any (t % 60) (by omega) (by omega) _).mono ?_
 rintro e w3 ⟨rfl,b3⟩
 go_wp2_with fail
 refine (concat5 _ _ _ _ _ (two_le _) (by decide) (two_le _) (by decide) (two_le _) _).mono ?_
 rintro e w4 ⟨rfl,b4⟩
 go_wp2_with fail
 go_ret2
 exact ⟨rfl,(b1.trans (b2.mono b1.size)).trans ((b3.trans (b4.mono b3.size)).mono (Nat.le_trans b1.size b2.size))⟩
theorem fmtDur_h (n:Int) (h0:3600≤n) (h1:n≤359999) (w:World) :
  Calls Tryz.prog 224 #[.int .i64 n] w fun e w'=>e = .returned (.tuple #[.string (str (durText n)),.int .i64 0])∧Below w.heap.size w w':=by
 have hp:0 < n / 3600:=by omega
 have hz:0≤n:=by omega
 go_enter Tryz.func224,Tryz.ntmps224
 go_wp2_with fail
 refine (divide_any n hz h1 _).mono ?_
 rintro e w0 ⟨rfl,rfl⟩
 go_wp2_with fail
 refine (itoa_any (n / 3600) (by omega) (by omega) _).mono ?_
 rintro e w0 ⟨rfl,rfl⟩
 go_wp2_with fail
 refine (twoDigits_any (n % 3600 / 60) (by omega) (by omega) _).mono ?_
 rintro e w1 ⟨rfl,b1⟩
 go_wp2_with fail
 refine (twoDigits_any (n % 60) (by omega) (by omega) _).mono ?_
 rintro e w2 ⟨rfl,b2⟩
 go_wp2_with fail
 refine (concat6 _ _ _ _ _ _ (dec_le _ (by omega)) (by decide) (two_le _) (by decide) (two_le _) (by decide) _).mono ?_
 rintro e w3 ⟨rfl,b3⟩
 go_wp2_with fail
 go_ret2
 exact ⟨ret_text (by unfold durText; rw [if_pos h0]; simp),b1.trans ((b2.trans (b3.mono b2.size)).mono b1.size)⟩
theorem fmtDur_m (n:Int) (h0:60≤n) (h1:n < 3600) (w:World) :
  Calls Tryz.prog 224 #[.int .i64 n] w fun e w'=>e = .returned (.tuple #[.string (str (durText n)),.int .i64 0])∧Below w.heap.size w w':=by
 have hp:¬ 0 < n / 3600:=by omega
 have hp2:0 < n % 3600 / 60:=by omega
 have hz:0≤n:=by omega
 have hz1:n≤359999:=by omega
 go_enter Tryz.func224,Tryz.ntmps224
 go_wp2_with fail
 refine (divide_any n hz hz1 _).mono ?_
 rintro e w0 ⟨rfl,rfl⟩
 go_wp2_with fail
 refine (itoa_any (n % 3600 / 60) (by omega) (by omega) _).mono ?_
 rintro e w0 ⟨rfl,rfl⟩
 go_wp2_with fail
 refine (twoDigits_any (n % 60) (by omega) (by omega) _).mono ?_
 rintro e w2 ⟨rfl,b2⟩
 go_wp2_with fail
 refine (concat4 _ _ _ _ (dec_le _ (by omega)) (by decide) (two_le _) (by decide) _).mono ?_
 rintro e w3 ⟨rfl,b3⟩
 go_wp2_with fail
 go_ret2
 exact ⟨ret_text (by unfold durText; rw [if_neg (by omega),if_pos h0]; simp),b2.trans (b3.mono b2.size)⟩
theorem fmtDur_s (n:Int) (h0:0≤n) (h1:n < 60) (w:World) :
  Calls Tryz.prog 224 #[.int .i64 n] w fun e w'=>e = .returned (.tuple #[.string (str (durText n)),.int .i64 0])∧Below w.heap.size w w':=by
 have hp:¬ 0 < n / 3600:=by omega
 have hp2:¬ 0 < n % 3600 / 60:=by omega
 have hz1:n≤359999:=by omega
 go_enter Tryz.func224,Tryz.ntmps224
 go_wp2_with fail
 refine (divide_any n h0 hz1 _).mono ?_
 rintro e w0 ⟨rfl,rfl⟩
 go_wp2_with fail
 refine (itoa_any (n % 60) (by omega) (by omega) _).mono ?_
 rintro e w0 ⟨rfl,rfl⟩
 go_wp2_with fail
 refine (concat2 _ _ (dec_le _ (by omega)) (by decide) _).mono ?_
 rintro e w3 ⟨rfl,b3⟩
 go_wp2_with fail
 go_ret2
 exact ⟨ret_text (by unfold durText; rw [if_neg (by omega),if_neg (by omega)]),b3⟩
theorem fmtDur_yes (n:Int) (h0:0≤n) (h1:n≤359999) (w:World) :
  Calls Tryz.prog 224 #[.int .i64 n] w fun e w'=>e = .returned (.tuple #[.string (str (durText n)),.int .i64 0])∧Below w.heap.size w w':=by
 by_cases hh:3600≤n
 ·exact fmtDur_h n hh h1 w
 ·by_cases hm:60≤n
  ·exact fmtDur_m n hm (by omega) w
  ·exact fmtDur_s n h0 (by omega) w
theorem isDigit_yes (r:Int) (h0:48≤r) (h1:r≤57) (w:World) :
  Calls Tryz.prog 352 #[.int .i32 r] w fun e w'=>e = .returned (.bool true)∧w = w':=by
 go_enter Tryz.func352,Tryz.ntmps352
 go_wp2
 go_ret
 exact ⟨rfl,rfl⟩
theorem isDigit_no (r:Int) (h:r < 48∨57 < r) (w:World) :
  Calls Tryz.prog 352 #[.int .i32 r] w fun e w'=>e = .returned (.bool false)∧w = w':=by
 rcases h with h | h
 ·go_enter Tryz.func352,Tryz.ntmps352
  go_wp2
  go_ret
  exact ⟨rfl,rfl⟩
 ·have h0:48≤r:=by omega
  have hd:decide (r≤57) = false:=by simp; omega
  go_enter Tryz.func352,Tryz.ntmps352
  go_wp2
  go_ret
  exact ⟨rfl,rfl⟩
theorem allDigits_yes (s:ByteArray) (hd:digs s.data.toList = true) (w:World) :
  Calls Tryz.prog 370 #[.string s] w fun e w'=>e = .returned (.bool true)∧Below w.heap.size w w':=by
 have HD:=Lib.hid hd
 clear hd
 go_enter Tryz.func370,Tryz.ntmps370
 go_wp2
 go_loopw [] (fun w'=>∃ pos:Nat,w' = w.iter s pos) (fun w'=>s.size - w'.iterPos w.heap.size)
 case atStart=>exact ⟨0,rfl⟩
 case round =>
  obtain ⟨pos,rfl⟩:=hrel
  by_cases hp:pos < s.size
  ·have hc:=digs_at s pos hp HD.out
   have hnx:∀ ty,(Instr.next (.pointer (some ⟨w.heap.size,0,none⟩)) true ty).run Tryz.prog (w.iter s pos) = _:=fun ty=>run_next_ascii w s pos ty hp (by omega)
   go_wp2_with (go_at_call 352; refine (isDigit_yes _ (by omega) (by omega) _).mono ?_; rintro e w' ⟨rfl,rfl⟩)
   go_roundw
   case rel=>exact ⟨pos + 1,rfl⟩
   case measure=>simp; omega
  ·have hnx:∀ ty,(Instr.next (.pointer (some ⟨w.heap.size,0,none⟩)) true ty).run Tryz.prog (w.iter s pos) = _:=fun ty=>run_next_end w s pos ty hp
   go_wp2
   go_ret
   exact ⟨rfl,below_iter _ _ _⟩
theorem allDigits_no (s:ByteArray) (hd:digs s.data.toList = false) (w:World) :
  Calls Tryz.prog 370 #[.string s] w fun e w'=>e = .returned (.bool false)∧Below w.heap.size w w':=by
 have HD:=Lib.hid hd
 clear hd
 go_enter Tryz.func370,Tryz.ntmps370
 go_wp2
 go_loopw [] (fun w'=>∃ pos:Nat,w' = w.iter s pos∧Hid (digs (s.data.toList.take pos) = true)) (fun w'=>s.size - w'.iterPos w.heap.size)
 case atStart=>exact ⟨0,rfl,Lib.hid rfl⟩
 case round =>
  obtain ⟨pos,rfl,ht⟩:=hrel
  by_cases hp:pos < s.size
  ·by_cases hc:48≤s[pos].toNat∧s[pos].toNat≤57
   ·have hst:=Lib.hid (digs_step s pos hp ht.out hc)
    have hnx:∀ ty,(Instr.next (.pointer (some ⟨w.heap.size,0,none⟩)) true ty).run Tryz.prog (w.iter s pos) = _:=fun ty=>run_next_ascii w s pos ty hp (by omega)
    go_wp2_with (go_at_call 352; refine (isDigit_yes _ (by omega) (by omega) _).mono ?_; rintro e w' ⟨rfl,rfl⟩)
    go_roundw
    case rel=>exact ⟨pos + 1,rfl,hst⟩
    case measure=>simp; omega
   ·by_cases ha:s[pos].toNat < 128
    ·have hnx:∀ ty,(Instr.next (.pointer (some ⟨w.heap.size,0,none⟩)) true ty).run Tryz.prog (w.iter s pos) = _:=fun ty=>run_next_ascii w s pos ty hp ha
     go_wp2_with (go_at_call 352; refine (isDigit_no _ (by omega) _).mono ?_; rintro e w' ⟨rfl,rfl⟩)
     go_ret
     exact ⟨rfl,below_iter _ _ _⟩
    ·have hh:=(decode_high s pos hp (by omega)).1
     have hnx:∀ ty,(Instr.next (.pointer (some ⟨w.heap.size,0,none⟩)) true ty).run Tryz.prog (w.iter s pos) = _:=fun ty=>run_next_any w s pos ty hp
     go_wp2_with (go_at_call 352; refine (isDigit_no _ (by omega) _).mono ?_; rintro e w' ⟨rfl,rfl⟩)
     go_ret
     exact ⟨rfl,below_iter _ _ _⟩
  ·have hf:=digs_of_take s pos hp ht.out
   rw [HD.out] at hf
   cases hf
theorem value_any (s:ByteArray) (hd:digs s.data.toList = true) (hl:s.size≤6) (w:World) :
  Calls Tryz.prog 322 #[.string s] w fun e w'=>e = .returned (.int .i64 (valN s.data.toList))∧Below w.heap.size w w':=by
 have HD:=Lib.hid hd
 clear hd
 go_enter Tryz.func322,Tryz.ntmps322
 go_wp2
 go_loopw [3] (fun n w'=>∃ pos:Nat,w' = w.iter s pos∧n = .int .i64 (valN (s.data.toList.take pos))∧pos≤s.size) (fun _ w'=>s.size - w'.iterPos w.heap.size)
 case atStart=>exact ⟨0,rfl,rfl,Nat.zero_le _⟩
 case round =>
  obtain ⟨pos,rfl,rfl,hle⟩:=hrel
  by_cases hp:pos < s.size
  ·have hc:=digs_at s pos hp HD.out
   have hv:valN (s.data.toList.take pos) < 1000000:=by
    have h1:=valN_lt _ (digs_take _ pos HD.out)
    have h2:(s.data.toList.take pos).length≤6:=Nat.le_trans (List.length_take_le _ _) (by omega)
    exact Nat.lt_of_lt_of_le h1 (Nat.pow_le_pow_right (by decide) h2)
   have hs:=Lib.hid (valN_snoc (s.data.toList.take pos) s[pos])
   have ht:=Lib.hid (take_snoc s pos hp)
   have hnx:∀ ty,(Instr.next (.pointer (some ⟨w.heap.size,0,none⟩)) true ty).run Tryz.prog (w.iter s pos) = _:=fun ty=>run_next_ascii w s pos ty hp (by omega)
   go_wp2
   go_roundw
   case rel=>exact ⟨pos + 1,rfl,by rw [ht.out,hs.out]; go_num,by omega⟩
   case measure=>simp; omega
  ·have hnx:∀ ty,(Instr.next (.pointer (some ⟨w.heap.size,0,none⟩)) true ty).run Tryz.prog (w.iter s pos) = _:=fun ty=>run_next_end w s pos ty hp
   have he:=Lib.hid (List.take_of_length_le (l:=s.data.toList) (i:=pos) (by simpa using hp))
   go_wp2
   go_ret
   exact ⟨by rw [he.out]; rfl,below_iter _ _ _⟩
theorem hasForm_len (s:ByteArray) (h8:s.size≠8) (w:World) :
  Calls Tryz.prog 320 #[.string s] w fun e w'=>e = .returned (.bool false)∧Below w.heap.size w w':=by
 have h:((s.size:Int) == 8) = false:=by rw [beq_eq_false_iff_ne]; omega
 have h':((s.size:Int) != 8) = true:=by rw [bne,h]; rfl
 go_enter Tryz.func320,Tryz.ntmps320
 go_wp2
 all_goals go_ret
 all_goals exact ⟨rfl,Below.refl _ _⟩
theorem form_round_ok (s:ByteArray) (pos:Nat) (hp:pos < s.size) (ho:okAt pos s[pos] = true):s[pos].toNat < 128∧(pos = 2∨pos = 5→s[pos].toNat = 58)∧(¬ (pos = 2∨pos = 5)→48≤s[pos].toNat∧s[pos].toNat≤57):=by
 by_cases hk:pos = 2∨pos = 5
 ·have:=(okAt_colon pos _ hk).1 ho
  exact ⟨by omega,fun _=>this,fun h=>absurd hk h⟩
 ·have:=(okAt_digit pos _ hk).1 ho
  exact ⟨by omega,fun h=>absurd h hk,fun _=>this⟩
theorem hasForm_yes (s:ByteArray) (hf:timeForm s.data.toList = true) (w:World) :
  Calls Tryz.prog 320 #[.string s] w fun e w'=>e = .returned (.bool true)∧Below w.heap.size w w':=by
 have h8:s.size = 8:=(form_at _ hf).1
 have HD:=Lib.hid (form_at _ hf).2
 clear hf
 have h:((s.size:Int) == 8) = true:=by rw [beq_iff_eq]; omega
 have h':((s.size:Int) != 8) = false:=by rw [bne,h]; rfl
 have H8:=Lib.hid h8
 clear h8
 go_enter Tryz.func320,Tryz.ntmps320
 go_wp2
 go_loopw [] (fun w'=>∃ pos:Nat,w' = w.iter s pos) (fun w'=>s.size - w'.iterPos w.heap.size)
 case atStart=>exact ⟨0,rfl⟩
 case round =>
  clear h h'
  obtain ⟨pos,rfl⟩:=hrel
  by_cases hp:pos < s.size
  ·obtain ⟨ha,hc,hd⟩:=form_round_ok s pos hp (HD.out pos _ (list_at s pos hp))
   have hnx:∀ ty,(Instr.next (.pointer (some ⟨w.heap.size,0,none⟩)) true ty).run Tryz.prog (w.iter s pos) = _:=fun ty=>run_next_ascii w s pos ty hp ha
   by_cases h2:pos = 2
   ·have hc:=hc (Or.inl h2)
    have b2:((pos:Int) == 2) = true:=by rw [beq_iff_eq]; omega
    have b3:(((s[pos].toNat:Nat):Int) != 58) = false:=by rw [hc]; rfl
    have HH:=Lib.hid (And.intro h2 hc)
    clear h2 hc hd
    go_wp2
    go_roundw
    case rel=>exact ⟨pos + 1,rfl⟩
    case measure=>simp; omega
   ·by_cases h5:pos = 5
    ·have hc:=hc (Or.inr h5)
     have b2:((pos:Int) == 2) = false:=beq_false (by omega)
     have b5:((pos:Int) == 5) = true:=by rw [beq_iff_eq]; omega
     have b3:(((s[pos].toNat:Nat):Int) != 58) = false:=by rw [hc]; rfl
     have HH:=Lib.hid (And.intro h5 hc)
     clear h2 h5 hc hd
     go_wp2
     go_roundw
     case rel=>exact ⟨pos + 1,rfl⟩
     case measure=>simp; omega
    ·have hd:=hd (by omega)
     have b2:((pos:Int) == 2) = false:=beq_false (by omega)
     have b5:((pos:Int) == 5) = false:=beq_false (by omega)
     clear hc
     go_wp2_with (go_at_call 352; refine (isDigit_yes _ (by omega) (by omega) _).mono ?_; rintro e w' ⟨rfl,rfl⟩)
     go_roundw
     case rel=>exact ⟨pos + 1,rfl⟩
     case measure=>simp; omega
  ·have hnx:∀ ty,(Instr.next (.pointer (some ⟨w.heap.size,0,none⟩)) true ty).run Tryz.prog (w.iter s pos) = _:=fun ty=>run_next_end w s pos ty hp
   go_wp2
   go_ret
   exact ⟨rfl,below_iter _ _ _⟩
theorem bad_rune (s:ByteArray) (pos:Nat) (hp:pos < s.size) (hx:okAt pos s[pos] = false) :
  (pos = 2∨pos = 5→(Utf8.decode s pos).1≠58)∧(¬ (pos = 2∨pos = 5)→(Utf8.decode s pos).1 < 48∨57 < (Utf8.decode s pos).1):=by
 by_cases ha:s[pos].toNat < 128
 ·rw [decode_ascii s pos hp ha]
  refine ⟨fun hk he=>?_,fun hk=>?_⟩
  ·rw [(okAt_colon pos _ hk).2 he] at hx; cases hx
  ·by_cases hd:48≤s[pos].toNat∧s[pos].toNat≤57
   ·rw [(okAt_digit pos _ hk).2 hd] at hx; cases hx
   ·show s[pos].toNat < 48∨57 < s[pos].toNat
    omega
 ·have:=(decode_high s pos hp (by omega)).1
  exact ⟨fun _=>by omega,fun _=>by omega⟩
theorem hasForm_no (s:ByteArray) (hf:timeForm s.data.toList = false) (w:World) :
  Calls Tryz.prog 320 #[.string s] w fun e w'=>e = .returned (.bool false)∧Below w.heap.size w w':=by
 by_cases h8:s.size≠8
 ·exact hasForm_len s h8 w
 have h8:s.size = 8:=by omega
 have HD:=Lib.hid hf
 clear hf
 have h:((s.size:Int) == 8) = true:=by rw [beq_iff_eq]; omega
 have h':((s.size:Int) != 8) = false:=by rw [bne,h]; rfl
 have H8:=Lib.hid h8
 clear h8
 go_enter Tryz.func320,Tryz.ntmps320
 go_wp2
 go_loopw [] (fun w'=>∃ pos:Nat,w' = w.iter s pos∧Hid (∀ k c,k < pos→s.data.toList[k]? = some c→okAt k c = true)) (fun w'=>s.size - w'.iterPos w.heap.size)
 case atStart=>exact ⟨0,rfl,Lib.hid (fun k c hk=>absurd hk (Nat.not_lt_zero _))⟩
 case round =>
  clear h h'
  obtain ⟨pos,rfl,ht⟩:=hrel
  by_cases hp:pos < s.size
  ·cases hx:okAt pos s[pos] with
   | true =>
    obtain ⟨ha,hc,hd⟩:=form_round_ok s pos hp hx
    have hst:Hid (∀ k c,k < pos + 1→s.data.toList[k]? = some c→okAt k c = true):=by
     intro k c hk hl
     by_cases hkp:k < pos
     ·exact ht.out k c hkp hl
     ·obtain rfl:k = pos:=by omega
      rw [list_at s k hp] at hl
      cases hl
      exact hx
    clear hx
    have hnx:∀ ty,(Instr.next (.pointer (some ⟨w.heap.size,0,none⟩)) true ty).run Tryz.prog (w.iter s pos) = _:=fun ty=>run_next_ascii w s pos ty hp ha
    by_cases h2:pos = 2
    ·have hc:=hc (Or.inl h2)
     have b2:((pos:Int) == 2) = true:=by rw [beq_iff_eq]; omega
     have b3:(((s[pos].toNat:Nat):Int) != 58) = false:=by rw [hc]; rfl
     have HH:=Lib.hid (And.intro h2 hc)
     clear h2 hc hd
     go_wp2
     go_roundw
     case rel=>exact ⟨pos + 1,rfl,hst⟩
     case measure=>simp; omega
    ·by_cases h5:pos = 5
     ·have hc:=hc (Or.inr h5)
      have b2:((pos:Int) == 2) = false:=beq_false (by omega)
      have b5:((pos:Int) == 5) = true:=by rw [beq_iff_eq]; omega
      have b3:(((s[pos].toNat:Nat):Int) != 58) = false:=by rw [hc]; rfl
      have HH:=Lib.hid (And.intro h5 hc)
      clear h2 h5 hc hd
      go_wp2
      go_roundw
      case rel=>exact ⟨pos + 1,rfl,hst⟩
      case measure=>simp; omega
     ·have hd:=hd (by omega)
      have b2:((pos:Int) == 2) = false:=beq_false (by omega)
      have b5:((pos:Int) == 5) = false:=beq_false (by omega)
      clear hc
      go_wp2_with (go_at_call 352; refine (isDigit_yes _ (by omega) (by omega) _).mono ?_; rintro e w' ⟨rfl,rfl⟩)
      go_roundw
      case rel=>exact ⟨pos + 1,rfl,hst⟩
      case measure=>simp; omega
   | false =>
    obtain ⟨hc,hd⟩:=bad_rune s pos hp hx
    clear hx
    have hnx:∀ ty,(Instr.next (.pointer (some ⟨w.heap.size,0,none⟩)) true ty).run Tryz.prog (w.iter s pos) = _:=fun ty=>run_next_any w s pos ty hp
    by_cases h2:pos = 2
    ·have hc:=hc (Or.inl h2)
     have b2:((pos:Int) == 2) = true:=by rw [beq_iff_eq]; omega
     have b3:((((Utf8.decode s pos).1:Nat):Int) != 58) = true:=bne_true (by omega)
     have HH:=Lib.hid (And.intro h2 hc)
     clear h2 hc hd
     go_wp2
     go_ret
     exact ⟨rfl,below_iter _ _ _⟩
    ·by_cases h5:pos = 5
     ·have hc:=hc (Or.inr h5)
      have b2:((pos:Int) == 2) = false:=beq_false (by omega)
      have b5:((pos:Int) == 5) = true:=by rw [beq_iff_eq]; omega
      have b3:((((Utf8.decode s pos).1:Nat):Int) != 58) = true:=bne_true (by omega)
      have HH:=Lib.hid (And.intro h5 hc)
      clear h2 h5 hc hd
      go_wp2
      go_ret
      exact ⟨rfl,below_iter _ _ _⟩
     ·have hd:=hd (by omega)
      have b2:((pos:Int) == 2) = false:=beq_false (by omega)
      have b5:((pos:Int) == 5) = false:=beq_false (by omega)
      clear hc
      go_wp2_with (go_at_call 352; refine (isDigit_no _ (by omega) _).mono ?_; rintro e w' ⟨rfl,rfl⟩)
      go_ret
      exact ⟨rfl,below_iter _ _ _⟩
  ·have hfm:=form_mk s.data.toList H8.out (fun k c hl=>ht.out k c (by have:=(List.getElem?_eq_some_iff.1 hl).1; have h9:k < s.size:=this; omega) hl)
   rw [HD.out] at hfm
   cases hfm
theorem form_digs (s:ByteArray) (hf:timeForm s.data.toList = true) (a:Nat) (ha:a = 0∨a = 3∨a = 6):digs ((s.data.toList.drop a).take 2) = true:=by
 obtain ⟨h8,h⟩:=form_at _ hf
 unfold digs
 rw [List.all_eq_true]
 intro x hx
 obtain ⟨i,hi⟩:=List.mem_iff_getElem?.1 hx
 have hi2:i < 2:=by
  have:=(List.getElem?_eq_some_iff.1 hi).1
  simp at this
  omega
 rw [List.getElem?_take_of_lt hi2,List.getElem?_drop] at hi
 exact (dig_iff _).2 ((okAt_digit _ _ (by omega)).1 (h _ _ hi))
theorem value_at (s:ByteArray) (a:Nat) (b:Nat) (hb:b = a + 2) (hd:digs ((s.data.toList.drop a).take 2) = true) (hs:a + 2≤s.size) (w:World) :
  Calls Tryz.prog 322 #[.string (s.extract a b)] w fun e w'=>e = .returned (.int .i64 (pairN s.data.toList a))∧Below w.heap.size w w':=by
 subst hb
 have he:(s.extract a (a + 2)).data.toList = (s.data.toList.drop a).take 2:=by rw [Lib.extract_data]; congr 1; omega
 have h:=value_any (s.extract a (a + 2)) (by rw [he]; exact hd) (by simp; omega) w
 rw [he] at h
 exact h
theorem value_form (s:ByteArray) (hf:timeForm s.data.toList = true) (a b:Nat) (hb:b = a + 2) (ha:a = 0∨a = 3∨a = 6) (w:World) :
  Calls Tryz.prog 322 #[.string (s.extract a b)] w fun e w'=>e = .returned (.int .i64 (pairN s.data.toList a))∧Below w.heap.size w w' :=
 value_at s a b hb (form_digs s hf a ha) (by have:s.size = 8:=(form_at _ hf).1; omega) w
theorem parse_yes (s:ByteArray) (hf:timeForm s.data.toList = true) (hp:Parts (pairN s.data.toList 0) (pairN s.data.toList 3) (pairN s.data.toList 6)) (w:World) :
  Calls Tryz.prog 254 #[.string s] w fun e w'=>e = .returned (.tuple #[.int .i64 ((pairN s.data.toList 0:Int) * 3600 + (pairN s.data.toList 3:Int) * 60 + (pairN s.data.toList 6:Int)),.int .i64 0])∧Below w.heap.size w w':=by
 have h8:s.size = 8:=(form_at _ hf).1
 have HF:=Lib.hid hf
 have HP:=Lib.hid hp
 clear hf hp
 have g2:2≤s.size:=by omega
 have g5:5≤s.size:=by omega
 have g8:8≤s.size:=by omega
 have i2:(2:Int)≤(s.size:Int):=by omega
 have i5:(5:Int)≤(s.size:Int):=by omega
 have i8:(8:Int)≤(s.size:Int):=by omega
 clear h8
 go_enter Tryz.func254,Tryz.ntmps254
 go_wp2_with fail
 refine (hasForm_yes s HF.out _).mono ?_
 rintro e w1 ⟨rfl,b1⟩
 go_wp2_with fail
 go_region_held3 (fun _=>True) (exact trivial) (first | (go_at_call 322; refine (rel (W:=w) (value_form s HF.out _ _ (by omega) (by omega) _) (by first | assumption | (apply Below.drew; assumption))).mono ?_; rintro e wa ⟨rfl,ba⟩) | (go_at_call 321; refine (join_yes _ _ _ HP.out _).mono ?_; rintro e wd ⟨rfl,rfl⟩))
 go_wp2_with fail
 go_ret2
 exact ⟨rfl,by assumption⟩
theorem parse_time (s:ByteArray) (hf:timeForm s.data.toList = true) (hp:¬ Parts (pairN s.data.toList 0) (pairN s.data.toList 3) (pairN s.data.toList 6)) (w:World) :
  Calls Tryz.prog 254 #[.string s] w fun e w'=>e = .returned (.tuple #[.int .i64 0,.int .i64 10])∧Below w.heap.size w w':=by
 have h8:s.size = 8:=(form_at _ hf).1
 have HF:=Lib.hid hf
 have HP:=Lib.hid hp
 clear hf hp
 have g2:2≤s.size:=by omega
 have g5:5≤s.size:=by omega
 have g8:8≤s.size:=by omega
 have i2:(2:Int)≤(s.size:Int):=by omega
 have i5:(5:Int)≤(s.size:Int):=by omega
 have i8:(8:Int)≤(s.size:Int):=by omega
 clear h8
 go_enter Tryz.func254,Tryz.ntmps254
 go_wp2_with fail
 refine (hasForm_yes s HF.out _).mono ?_
 rintro e w1 ⟨rfl,b1⟩
 go_wp2_with fail
 go_region_held3 (fun _=>True) (exact trivial) (first | (go_at_call 322; refine (rel (W:=w) (value_form s HF.out _ _ (by omega) (by omega) _) (by first | assumption | (apply Below.drew; assumption))).mono ?_; rintro e wa ⟨rfl,ba⟩) | (go_at_call 321; refine (join_no _ _ _ HP.out _).mono ?_; rintro e wd ⟨rfl,rfl⟩))
 go_wp2_with fail
 go_ret2
 exact ⟨rfl,by assumption⟩
theorem parse_syntax (s:ByteArray) (hf:timeForm s.data.toList = false) (w:World) :
  Calls Tryz.prog 254 #[.string s] w fun e w'=>e = .returned (.tuple #[.int .i64 0,.int .i64 3])∧Below w.heap.size w w':=by
 have HF:=Lib.hid hf
 clear hf
 go_enter Tryz.func254,Tryz.ntmps254
 go_wp2_with fail
 refine (hasForm_no s HF.out _).mono ?_
 rintro e w1 ⟨rfl,b1⟩
 go_wp2_with fail
 go_ret2
 exact ⟨rfl,b1⟩
end Go.Proofs.YtpifdbphmnifdaaGreatDoor
