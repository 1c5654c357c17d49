/-
  Lists of nodes and of names in blocks of their own types: what Parse and Refs of package formula answer lies so.
-/
import Derived.Test.YtnlfpaopfloklaaGreatDoorJEAR
namespace Go.Proofs.YtnlfpaopfloklaaGreatDoor
open Go.ChangeShapes Go.WideShapes Go.ChangeAt Go.RowKit
open Go.Sort (putRow Holds grow holds_putRow)
set_option maxRecDepth 20000
def NdsT (w:World) (A:Option Addr) (c:Nat) (L:List Nd):Prop:=NdsV w A c L∧(L=[]∨∃ b o cs fr,A=some ⟨b,o,none⟩∧w.heap[b]?=some (.cells cs 180 fr))
theorem NdsT.nil (w:World) (A:Option Addr) (c:Nat) (h:c≤9223372036854775807):NdsT w A c []:=⟨NdsV.nil w A c h,Or.inl rfl⟩
theorem NdsT.keep {w w':World} {A:Option Addr} {c:Nat} {L:List Nd} (h:NdsT w A c L) (hB:∀ (b:Nat) (cs:Array Value) (fr:Nat×Nat),w.heap[b]?=some (Obj.cells cs 180 fr)→w'.heap[b]?=w.heap[b]?):NdsT w' A c L:=by
 obtain ⟨⟨h1,h2,h3⟩,h4⟩:=h
 rcases h4 with h4 | ⟨b,o,cs,fr,hA,hb⟩
 ·exact ⟨⟨h1,h2,Or.inl h4⟩,Or.inl h4⟩
 ·have he:=hB b cs fr hb
  refine ⟨⟨h1,h2,?_⟩,Or.inr ⟨b,o,cs,fr,hA,he.trans hb⟩⟩
  rcases h3 with h3 | ⟨b',o',hA',h5,h6⟩
  ·exact Or.inl h3
  ·rw [hA] at hA'
   cases hA'
   refine Or.inr ⟨b,o,hA,(Array.getElem?_eq_some_iff.1 (he.trans hb)).1,fun k hk=>?_⟩
   obtain ⟨x0,x1,x2,x3,x4⟩:=h6 k hk
   exact ⟨(World.cell?_of_block (a:=⟨b,_,none⟩) he).trans x0,(World.cell?_of_block (a:=⟨b,_,none⟩) he).trans x1,(World.cell?_of_block (a:=⟨b,_,none⟩) he).trans x2,(World.cell?_of_block (a:=⟨b,_,none⟩) he).trans x3,(World.cell?_of_block (a:=⟨b,_,none⟩) he).trans x4⟩
theorem NdsT.later {w w':World} {A:Option Addr} {c:Nat} {L:List Nd} (h:NdsT w A c L) (hB:Below w.heap.size w w'):NdsT w' A c L :=
 h.keep fun b _ _ hb=>hB.block b (Array.getElem?_eq_some_iff.1 hb).1
theorem ndsT_of {w:World} {N:Nat} {A:Option Addr} {c:Nat} {l:List Nd} (h:w.ownsRow N 180 5 (.slice A l.length c) l.length (cellsN l)):NdsT w A c l:=by
 refine ⟨nds_of h,?_⟩
 rcases h.2 with ⟨h0,h1⟩ | ⟨g,cap,cur,h0,hb,hg,-⟩
 ·exact Or.inl (List.eq_nil_of_length_eq_zero h1)
 ·cases h0
  exact Or.inr ⟨g,0,_,_,rfl,hg⟩
def StrT (w:World) (A:Option Addr) (c:Nat) (L:List (List UInt8)):Prop:=StrsV w A c L∧(L=[]∨∃ b o cs fr,A=some ⟨b,o,none⟩∧w.heap[b]?=some (.cells cs 9 fr))
theorem StrT.nil (w:World) (A:Option Addr) (c:Nat) (h:c≤9223372036854775807):StrT w A c []:=⟨StrsV.nil w A c h,Or.inl rfl⟩
theorem StrT.keep {w w':World} {A:Option Addr} {c:Nat} {L:List (List UInt8)} (h:StrT w A c L) (hB:∀ (b:Nat) (cs:Array Value) (fr:Nat×Nat),w.heap[b]?=some (Obj.cells cs 9 fr)→w'.heap[b]?=w.heap[b]?):StrT w' A c L:=by
 obtain ⟨⟨h1,h2,h3⟩,h4⟩:=h
 rcases h4 with h4 | ⟨b,o,cs,fr,hA,hb⟩
 ·exact ⟨⟨h1,h2,Or.inl h4⟩,Or.inl h4⟩
 ·have he:=hB b cs fr hb
  refine ⟨⟨h1,h2,?_⟩,Or.inr ⟨b,o,cs,fr,hA,he.trans hb⟩⟩
  rcases h3 with h3 | ⟨b',o',hA',h5,h6⟩
  ·exact Or.inl h3
  ·rw [hA] at hA'
   cases hA'
   exact Or.inr ⟨b,o,hA,(Array.getElem?_eq_some_iff.1 (he.trans hb)).1,fun k hk=>(World.cell?_of_block (a:=⟨b,_,none⟩) he).trans (h6 k hk)⟩
theorem StrT.later {w w':World} {A:Option Addr} {c:Nat} {L:List (List UInt8)} (h:StrT w A c L) (hB:Below w.heap.size w w'):StrT w' A c L :=
 h.keep fun b _ _ hb=>hB.block b (Array.getElem?_eq_some_iff.1 hb).1
theorem put_ty {w:World} {g n:Nat} {d:Array (List UInt8)} {cs:Array Value} {T:Nat} {fr:Nat×Nat} (h:w.heap[g]?=some (.cells cs T fr)):∃ cs' fr',(putRow encStr (Sort.ahead w n) g 0 d).heap[g]?=some (.cells cs' T fr'):=by
 unfold putRow Sort.mapBlock
 have h':(Sort.ahead w n).heap[g]?=some (.cells cs T fr):=h
 simp only [Array.getElem?_modify,if_true,h',Option.map_some]
 exact ⟨_,_,rfl⟩
theorem grown_ty {w:World} {g T:Nat} {os:Array Obj} (h:∃ cs fr,w.heap[g]?=some (.cells cs T fr)):∃ cs fr,(grow w os).heap[g]?=some (.cells cs T fr):=by
 obtain ⟨cs,fr,h⟩:=h
 exact ⟨cs,fr,by rw [Sort.heap_grow_old _ _ (Array.getElem?_eq_some_iff.1 h).1];exact h⟩
set_option maxHeartbeats 1000000 in
theorem ball_typ (N p:Nat) (b:Bld) (w:World) (hN:N≤w.heap.size) (h1:b.nodes.length+opsN b.waiting≤200) (h2:b.ready.length≤200) (h3:opsN b.waiting+1≤b.ready.length) (h4:b.waiting.length≤200) (hB:BldAt N p b w) :
  Calls Tryz.prog 155 #[.pointer (some ⟨p,0,none⟩)] w fun e w'=>(∃ A c,e=.returned (.slice A (settleB 0 b).nodes.length c)∧NdsT w' A c (settleB 0 b).nodes)∧Kept N (fun k=>k=p) w w':=by
 have h:=settle_any N p b 0 w hN h1 h2 h3 h4 hB
 generalize settleB 0 b=b1 at *
 clear hB
 go_enter Tryz.func155,Tryz.ntmps155
 go_wp2_with fail
 refine h.mono ?_
 rintro e w1 ⟨rfl,⟨AN,cN,AR,cR,AW,cW,hV⟩,hK⟩
 have c0:=hV.c0
 have HN:Hid (NdsT w1 AN cN b1.nodes):=ndsT_of hV.nod
 have HK:Hid (Kept N (fun k=>k=p) w w1):=hK
 clear hV hK h
 go_wp2_with fail
 go_ret
 exact ⟨⟨_,_,rfl,HN.out⟩,HK.out⟩
set_option maxHeartbeats 4000000 in
theorem fparse_typ (s:ByteArray) (w:World) (h100:s.size≤100):Calls Tryz.prog 110 #[.string s] w fun e w'=>(∃ A c,e=.returned (.tuple #[.slice A (prsL s).length c,.int .i64 (prsA s:Int),errV (prsE s)])∧NdsT w' A c (prsL s))∧Below w.heap.size w w':=by
 have hmf:∀ (fn:Fn) (first cap:Array Value) (w:World),(Instr.makeFunc fn first cap).run Tryz.prog w=.ok (.func fn first cap) w:=fun _ _ _ _=>rfl
 have h100':(s.size:Int)≤100:=by omega
 have HAt:Hid ((goneB s).1.at'≤s.size):=all_in _ (Nat.zero_le _)
 have hrd:=fread_any (tkB (w.heap.size+4) w.heap.size) (tkB_ok _ _) s noB (newB w) (by show s.size≤100;exact h100) (by rw [newB_size];rfl) (by rw [newB_size];exact Nat.lt_succ_self _) (newB_at w) fit_new (goneB s) rfl
 have HB:Hid (Below w.heap.size w (newB w)):=newB_below w
 obtain ⟨W,hW⟩:∃ W,newB w=W:=⟨_,rfl⟩
 have HZ:Hid ((newB w).heap.size=w.heap.size+1):=newB_size w
 rw [hW] at hrd HB HZ
 unfold newB at hW
 have hfv:(tkB (w.heap.size+4) w.heap.size).fv=.func (.func 152) #[.pointer (some ⟨w.heap.size,0,none⟩)] #[]:=rfl
 rw [hfv] at hrd
 have HI:Hid (∀ st w',(tkB (w.heap.size+4) w.heap.size).I st w'→BldAt (w.heap.size+4) w.heap.size st w'):=fun _ _ h=>h
 have HG:Hid (∀ a o ph st,(tkB (w.heap.size+4) w.heap.size).G a o ph st→FitB a o ph st):=fun _ _ _ _ h=>h
 have HP:Hid ((tkB (w.heap.size+4) w.heap.size).p=w.heap.size∧(tkB (w.heap.size+4) w.heap.size).N=w.heap.size+4):=⟨rfl,rfl⟩
 generalize tkB (w.heap.size+4) w.heap.size=T at *
 cases hx:(goneB s).2
 ·have hE:prsE s=2:=by unfold prsE;rw [if_neg (by omega),if_neg (by rw [hx];decide)]
  have hA:prsA s=(goneB s).1.at':=by unfold prsA;rw [if_neg (by omega),if_neg (by rw [hx];decide)]
  have hL:prsL s=[]:=by unfold prsL;rw [if_neg (by rw [hE];decide)]
  rw [hE,hA,hL,errV_some (by decide)]
  have HX:Hid ((goneB s).2=false):=hx
  clear hE hA hL hx
  go_enter Tryz.func110,Tryz.ntmps110
  go_wp2_with fail
  refine hrd.mono ?_
  rintro e w1 ⟨⟨hk,-⟩,⟨h1,-⟩ | ⟨-,rfl⟩⟩
  ·exact absurd (HX.out.symm.trans h1) (by decide)
  have HB1:Hid (Below w.heap.size w w1):=below_of_kept HB.out hk (by rw [HP.out.1];exact Nat.le_refl _)
  rw [errV_some (by decide)]
  clear hk hrd
  go_wp2_with fail
  go_returns
  exact ⟨⟨none,0,rfl,NdsT.nil _ _ _ (by omega)⟩,HB1.out⟩
 ·have hE:prsE s=formErr (nodesP s):=by unfold prsE;rw [if_neg (by omega),if_pos hx]
  have hA:prsA s=0:=by unfold prsA;rw [if_neg (by omega),if_pos hx]
  have HX:Hid ((goneB s).2=true):=hx
  have HE:Hid (prsE s=formErr (nodesP s)):=hE
  have HLd:Hid (prsL s=if prsE s=0 then nodesP s else []):=rfl
  have HNd:Hid (nodesP s=(settleB 0 (goneB s).1.st).nodes):=rfl
  rw [hE,hA]
  clear hE hA hx
  go_enter Tryz.func110,Tryz.ntmps110
  go_wp2_with fail
  refine hrd.mono ?_
  rintro e w1 ⟨⟨hk,hz1⟩,⟨-,rfl,hI,hG⟩ | ⟨h1,-⟩⟩
  case inr=>exact absurd (HX.out.symm.trans h1) (by decide)
  have HB1:Hid (Below w.heap.size w w1):=below_of_kept HB.out hk (by rw [HP.out.1];exact Nat.le_refl _)
  obtain ⟨f1,f2,f3,f4,f5⟩:=HG.out _ _ _ _ hG
  simp only [if_true] at f2
  rw [HP.out.2] at hz1
  have hat:(goneB s).1.at'≤200:=by have:=HAt.out;omega
  have hal:=ball_typ (w.heap.size+4) w.heap.size (goneB s).1.st w1 hz1 (by omega) (by omega) f2 (by omega) (HI.out _ _ hI)
  clear hk hrd hI hG f1 f2 f3 f4 f5
  rw [←HNd.out] at hal
  obtain ⟨L,hLn⟩:∃ L,nodesP s=L:=⟨_,rfl⟩
  have HLn:Hid (nodesP s=L):=hLn
  rw [hLn] at hal HE HLd
  clear hLn
  go_wp2_with fail
  refine hal.mono ?_
  rintro e w2 ⟨⟨A,c,rfl,hN2⟩,hk2⟩
  have HB2:Hid (Below w.heap.size w w2):=⟨hk2.os.trans HB1.out.os,hk2.tape.trans HB1.out.tape,hk2.output.trans HB1.out.output,Nat.le_trans HB1.out.size hk2.size,fun k hk'=>by rw [hk2.block k (by omega) (by omega)];exact HB1.out.block k hk'⟩
  have HN2:Hid (NdsT w2 A c L):=hN2
  have hck:=fchk_any A c L w2 hN2.1
  clear hk2 hN2 hal
  by_cases h0:formErr L=0
  ·have HL:Hid (prsL s=L):=by show _=_;rw [HLd.out,HE.out,if_pos h0]
   rw [h0,errV_zero] at hck
   have HF:Hid (formErr L=0):=h0
   clear h0
   go_wp2_with fail
   refine hck.mono ?_
   rintro e w3 ⟨rfl,hb3⟩
   have HB3:Hid (Below w.heap.size w w3):=onB HB2.out hb3
   have HN3:Hid (NdsT w3 A c L):=HN2.out.later hb3
   clear hb3 hck
   go_wp2_with fail
   go_returns
   exact ⟨⟨A,c,by rw [HL.out,HLn.out,HF.out];rfl,by rw [HL.out];exact HN3.out⟩,HB3.out⟩
  ·have HL:Hid (prsL s=[]):=by show _=_;rw [HLd.out,HE.out,if_neg h0]
   rw [errV_some h0] at hck
   have HF:Hid (errV (formErr L)=.iface 75 (.int .i64 (formErr L))):=errV_some h0
   clear h0
   go_wp2_with fail
   refine hck.mono ?_
   rintro e w3 ⟨rfl,hb3⟩
   have HB3:Hid (Below w.heap.size w w3):=onB HB2.out hb3
   clear hb3 hck
   go_wp2_with fail
   go_returns
   exact ⟨⟨none,0,by rw [HL.out,HLn.out,HF.out];rfl,by rw [HL.out];exact NdsT.nil _ _ _ (by omega)⟩,HB3.out⟩
set_option maxHeartbeats 4000000 in
theorem frefs_typ (A:Option Addr) (cap:Nat) (l:List Nd) (w:World) (hN:NdsV w A cap l):Calls Tryz.prog 111 #[.slice A l.length cap] w fun e w'=>(∃ A' c',e=.returned (.tuple #[.slice A' (refsP l).length c',errV (formErr l)])∧StrT w' A' c' (refsP l))∧Below w.heap.size w w':=by
 have hck:=fchk_any A cap l w hN
 obtain ⟨i0,hi0,hz0,hz1,hz2⟩:=info_parts Tryz.infoStrF
 by_cases h0:formErr l=0
 case neg =>
  have hP:refsP l=[]:=by unfold refsP;rw [if_neg h0]
  rw [hP]
  rw [errV_some h0] at hck ⊢
  clear h0 hP
  go_enter Tryz.func111,Tryz.ntmps111
  go_wp2_with fail
  refine hck.mono ?_
  rintro e w1 ⟨rfl,hb1⟩
  go_wp2_with fail
  go_returns
  exact ⟨⟨none,0,rfl,StrT.nil _ _ _ (by omega)⟩,hb1⟩
 obtain ⟨hl0,hl30,hg,-⟩:=form_right h0
 have hP:refsP l=Lib.compact ((nmsTo l l.length).mergeSort fun x y=>decide (x≤y)):=by unfold refsP;rw [if_pos h0]
 rw [h0,errV_zero] at hck ⊢
 obtain ⟨-,-,h1 | ⟨b,o,rfl,hN⟩⟩:=hN
 ·rw [h1] at hl0;simp at hl0
 have HG:Hid (∀ j,j<l.length→ndErr (l.getD j noN) j=0):=hg
 have HN:Hid (NdsAt w b o l):=hN
 have HP:Hid (refsP l=Lib.compact ((nmsTo l l.length).mergeSort fun x y=>decide (x≤y))):=hP
 obtain ⟨n,hn⟩:∃ n,l.length=n:=⟨_,rfl⟩
 have HL:Hid (l.length=n):=hn
 rw [hn] at hck ⊢
 have hni:(n:Int)≤30:=by omega
 clear h0 hP hg hN
 go_enter Tryz.func111,Tryz.ntmps111
 go_wp2_with fail
 refine hck.mono ?_
 rintro e w1 ⟨rfl,hb1⟩
 have HB1:Hid (Below w.heap.size w w1):=hb1
 clear hb1 hck
 go_wp2_with fail
 go_loopg [5,15] n (fun g s5 s15 wr => ∃ (k:Nat) (v:Value),k≤n∧g=n-k∧s15=.int .i64 k∧v=s5∧wr.ownsRow w.heap.size 9 1 v (nmsTo l k).length ((nmsTo l k).map encStr)∧Below w.heap.size w wr)
 case atStart=>exact ⟨0,_,Nat.zero_le _,rfl,rfl,rfl,World.ownsRow_nil _ _ _ _,HB1.out⟩
 case round =>
  obtain ⟨k,v,hk,rfl,rfl,rfl,hO,hBw⟩:=hrel
  have HO:Hid (wr.ownsRow w.heap.size 9 1 v (nmsTo l k).length ((nmsTo l k).map encStr)):=hO
  have HW:Hid (Below w.heap.size w wr):=hBw
  have hln:=nms_len l k
  clear hO hBw
  by_cases hlt:k<n
  ·have hki:(k:Int)<(n:Int):=by omega
   obtain ⟨x0,x1,x2,x3,x4⟩:=(HN.out.later HW.out).nd (k:=k) (by omega)
   have hbl:b<w.heap.size:=HN.out.1
   have hsz:=HW.out.size
   have hgk:=HG.out k (by omega)
   obtain ⟨x,hx⟩:∃ x,l.getD k noN=x:=⟨_,rfl⟩
   have HX:Hid (l.getD k noN=x):=hx
   rw [hx] at x0 x1 x2 x3 x4 hgk
   clear hx
   obtain ⟨m,hm⟩:∃ m,(nmsTo l k).length=m:=⟨_,rfl⟩
   by_cases h2:x.op=2
   ·have HT:Hid (nmsTo l (k+1)=nmsTo l k ++ [x.name.data.toList]):=nms_hit (by omega) HX.out h2
    have hnm:nameErr x.name=0:=by
     unfold ndErr at hgk
     rw [if_neg (by omega),if_neg (by omega),if_pos h2] at hgk
     split at hgk
     ·cases hgk
     ·rename_i h;simpa using h
    have hns:x.name.size≤8:=by
     unfold nameErr at hnm
     split at hnm
     ·cases hnm
     ·omega
    have hcl:=fun w=>sclone_any x.name w (by omega)
    rw [h2] at x0
    rw [hm] at HO
    clear hgk hnm
    go_wp2_with fail
    refine (hcl _).mono ?_
    rintro e w2 ⟨rfl,hb2⟩
    have HB2:Hid (Below w.heap.size w w2):=onB HW.out (onB (by go_grown) hb2)
    have hO2:=own_later HO.out (onB (by go_grown) hb2)
    have hsz2:=HB2.out.size
    clear hb2 hcl
    go_wp2_with (at_builtin;refine wpList_append_own _ rfl _ _ 108 rfl w.heap.size 9 i0 (.string ⟨#[]⟩) 1 16 Tryz.underlying108 hi0 hz0 hz1 hz2 rfl (by decide) _ _ _ rfl (hO2.alloc _) ⟨w2.heap.size,0,none⟩ 1 1 [.string x.name] rfl rfl one_cell (by intro u hu;simp at hu;subst hu;rfl) (by unfold maxLen;omega) (by omega) (by simp;omega) ?_)
    intro v' w3 hown' hgrow _
    have HB3:Hid (Below w.heap.size w w3):=grown_own HB2.out hO2 hgrow
    have HO3:Hid (w3.ownsRow w.heap.size 9 1 v' (nmsTo l (k+1)).length ((nmsTo l (k+1)).map encStr)):=by
     show World.ownsRow ..
     rw [HT.out,List.length_append,List.map_append,hm]
     exact hown'
    clear hown' hgrow hO2
    go_wp2_with fail
    go_roundg (n-(k+1))
    case measure=>omega
    case rel=>exact ⟨k+1,_,by omega,rfl,by go_num,rfl,HO3.out,HB3.out⟩
   ·have HT:Hid (nmsTo l (k+1)=nmsTo l k):=nms_miss (by omega) HX.out h2
    have e2:(x.op == 2)=false:=by simpa using h2
    clear hgk h2
    go_wp2_with fail
    go_roundg (n-(k+1))
    case measure=>omega
    case rel=>exact ⟨k+1,_,by omega,rfl,by go_num,rfl,by rw [HT.out];exact own_later HO.out (by go_grown),onB HW.out (by go_grown)⟩
  ·have hke:k=n:=by omega
   subst hke
   obtain ⟨zs,hzs⟩:∃ zs,nmsTo l k=zs:=⟨_,rfl⟩
   have HZ:Hid (refsP l=Lib.compact (zs.mergeSort fun x y=>decide (x≤y))):=by show _=_;rw [HP.out,HL.out,hzs]
   rw [hzs] at HO hln
   clear hzs
   by_cases hz:zs=[]
   ·subst hz
    have hv:v=.slice none 0 0∨∃ g c,v=.slice (some ⟨g,0,none⟩) 0 c∧c≤maxLen:=by
     rcases HO.out.2 with ⟨h,_⟩ | ⟨g,c,cur,h,_,_,_,hm,_⟩
     ·exact Or.inl h
     ·exact Or.inr ⟨g,c,h,hm⟩
    have HZ2:Hid (refsP l=[]):=by show _=_;rw [HZ.out,List.mergeSort_nil];rfl
    rcases hv with rfl | ⟨g,c,rfl,hcm⟩
    ·have hso:=Any.slices_Sort_string_none Tryz.lays190 none 0 wr
     have hco:=Any.slices_Compact_string_empty Tryz.lays194 none 0 wr
     clear HO
     go_wp2_with fail
     refine Calls.mono hso ?_
     rintro e w2 ⟨rfl,rfl⟩
     go_wp2_with fail
     refine Calls.mono hco ?_
     rintro e w3 ⟨rfl,rfl⟩
     go_wp2_with fail
     go_returns
     exact ⟨⟨none,0,by rw [HZ2.out];rfl,by rw [HZ2.out];exact StrT.nil _ _ _ (by omega)⟩,HW.out⟩
    ·have hso:=Any.slices_Sort_string_none Tryz.lays190 (some ⟨g,0,none⟩) c wr
     have hco:=Any.slices_Compact_string_empty Tryz.lays194 (some ⟨g,0,none⟩) c wr
     clear HO
     go_wp2_with fail
     refine Calls.mono hso ?_
     rintro e w2 ⟨rfl,rfl⟩
     go_wp2_with fail
     refine Calls.mono hco ?_
     rintro e w3 ⟨rfl,rfl⟩
     go_wp2_with fail
     go_returns
     exact ⟨⟨some ⟨g,0,none⟩,c,by rw [HZ2.out];rfl,by rw [HZ2.out];exact StrT.nil _ _ _ (by unfold maxLen at hcm;omega)⟩,HW.out⟩
   ·have hpos:0<zs.length:=List.length_pos_iff.2 hz
    obtain ⟨g,c,rfl,hgb,hgl,hnc,hcm,-,hH⟩:=Lib.holds_of_ownsRow HO.out (by intro e;have:=HO.out.2;rcases this with ⟨_,h⟩ | ⟨g,c,cur,h,_⟩;omega;rw [e] at h;cases h)
    have HTy:Hid (∃ cs fr,wr.heap[g]?=some (.cells cs 9 fr)):=by
     rcases HO.out.2 with ⟨h,-⟩ | ⟨g',c',cur,h,-,hg',-⟩
     ·cases h
     ·cases h;exact ⟨_,_,hg'⟩
    have hso:=Any.slices_Sort_string Tryz.lays190 g 0 c zs wr hH hgl (by omega)
    clear HO
    go_wp2_with fail
    refine Calls.mono hso ?_
    rintro e w2 ⟨rfl,q,os,hw2⟩
    obtain ⟨ys,hys⟩:∃ ys,(zs.mergeSort fun x y=>decide (x≤y))=ys:=⟨_,rfl⟩
    have hyl:ys.length=zs.length:=by rw [←hys];exact List.length_mergeSort zs
    rw [hys] at HZ hw2
    have HB2:Hid (Below w.heap.size w w2):=by rw [hw2];exact sorted_below HW.out hgb
    have hg2:g<w2.heap.size:=by rw [hw2];simp;omega
    have hH2:Holds encStr w2 g 0 ys.toArray:=by
     rw [hw2]
     exact Sort.holds_grow encStr _ _ _ _ _ (by simpa using hgl) (holds_putRow encStr (Sort.ahead wr q) g 0 zs.toArray _ hH (by simp [hyl]))
    have hco:=Any.slices_Compact_string Tryz.lays194 g 0 c ys w2 hH2 (by omega) (by omega)
    rw [hyl] at hco
    have HT2:Hid (∃ cs fr,w2.heap[g]?=some (.cells cs 9 fr)):=by
     obtain ⟨cs,fr,hty⟩:=HTy.out
     rw [hw2]
     exact grown_ty (put_ty (n:=q) hty)
    have HPk:Hid (∀ q2,StrsV (putRow encStr (Sort.ahead w2 q2) g 0 (Lib.compact ys ++ List.replicate (ys.length-(Lib.compact ys).length) []).toArray) (some ⟨g,0,none⟩) c (Lib.compact ys)):=fun q2=>packed_strs hH2 (by omega) hcm hg2
    rw [hyl] at HPk
    clear hw2 hys hso hH hH2
    go_wp2_with fail
    refine Calls.mono hco ?_
    rintro e w3 ⟨rfl,q2,hw3⟩
    have HB3:Hid (Below w.heap.size w w3):=by rw [hw3];exact packed_below HB2.out hgb
    have HS3:Hid (StrT w3 (some ⟨g,0,none⟩) c (Lib.compact ys)):=by
     rw [hw3]
     obtain ⟨cs,fr,hty⟩:=HT2.out
     obtain ⟨cs',fr',hty'⟩:=put_ty (n:=q2) hty
     exact ⟨HPk.out q2,Or.inr ⟨g,0,_,_,rfl,hty'⟩⟩
    clear hw3 hco HPk
    go_wp2_with fail
    go_returns
    exact ⟨⟨some ⟨g,0,none⟩,c,by rw [HZ.out];rfl,by rw [HZ.out];exact HS3.out⟩,HB3.out⟩
theorem fparse_v (s:ByteArray) (w:World) (h100:s.size≤100):Calls Tryz.prog 110 #[.string s] w fun e w'=>(∃ A c,e=.returned (.tuple #[.slice A (prsL s).length c,.int .i64 (prsA s:Int),errV (prsE s)])∧NdsV w' A c (prsL s))∧Below w.heap.size w w' :=
 (fparse_typ s w h100).mono fun _ _ ⟨⟨A,c,h1,h2⟩,h3⟩=>⟨⟨A,c,h1,h2.1⟩,h3⟩
theorem frefs_v (A:Option Addr) (cap:Nat) (l:List Nd) (w:World) (hN:NdsV w A cap l):Calls Tryz.prog 111 #[.slice A l.length cap] w fun e w'=>(∃ A' c',e=.returned (.tuple #[.slice A' (refsP l).length c',errV (formErr l)])∧StrsV w' A' c' (refsP l))∧Below w.heap.size w w' :=
 (frefs_typ A cap l w hN).mono fun _ _ ⟨⟨A',c',h1,h2⟩,h3⟩=>⟨⟨A',c',h1,h2.1⟩,h3⟩
end Go.Proofs.YtnlfpaopfloklaaGreatDoor
