/- What the reader of pac -/
import Derived.Test.YtohgnbgamfepoaaGreatDoorJHAF
import Derived.Test.YtohgnbgamfepoaaGreatDoorJHAG
namespace Go.Proofs.YtohgnbgamfepoaaGreatDoor
open ChangeShapes WideShapes ChangeAt RowKit
set_option maxRecDepth 99999
set_option maxHeartbeats 0
theorem cE {s:ByteArray} {a:Nat} (h:nextB s a≠0) (b:a≤s.size):a<s.size:=by
 by_cases e:a=s.size
 ·subst e;simp [nextB] at h
 omega
theorem iO (s:ByteArray) (a:Nat):(s.extract a s.size).size=s.size-a:=by rw [ByteArray.size_extract];omega
theorem vx (q a o:Nat) (s:ByteArray) (tv:Value) (w:World) (v:s.size≤4611686018427387904) (r:a≤s.size) (j:cZ w q s a o tv):Rt 276 #[.pointer (some ⟨q,0,none⟩)] w (.int .i64 (digitsN s a)):=by
 have g:=iE q a o s tv w r j;unfold digitsN
 by_cases b:nextB s a=48
 ·rw [b] at g
  rw [if_pos b];clear b
  go_enter Tryz.func276,Tryz.ntmps276
  go_wp2_with fail;refine g.mono ?_;rintro e w1 ⟨rfl,d⟩;go_wp2_with fail;go_ret;exact ⟨rfl,d⟩
 have m:(nextB s a == 48)=false:=by simpa using b
 rw [if_neg b];generalize nextB s a=c at *;have l:Hid (∀ w',Bl w w'→Rt 277 #[.string (s.extract a s.size),.func (.func 275) #[] #[]] w' (.int .i64 (leadN b9 (s.extract a s.size)))):=fun w' _=>Cs _ w' (by rw [iO];omega)
 generalize leadN b9 (s.extract a s.size)=n at l ⊢;have p:Hid (((min n 7:Nat):Int)=min (n:Int) 7):=by show _=_;omega
 have t:(a:Int)≤(s.size:Int):=by omega
 have u:(s.size:Int)≤4611686018427387904:=by omega
 go_enter Tryz.func276,Tryz.ntmps276
 go_wp2_with fail;refine g.mono ?_;rintro e w1 ⟨rfl,d⟩;have f:=j.later d;have c0:=f.c0;have c1:=f.c1;have k:=aa d;clear f d j;go_wp2_with fail
 go_region_law ((go_simp;refine (l.out _ (ae k.out (by go_grown))).mono ?_;rintro e w2 ⟨rfl,h⟩;have i:=ae (ae (W0:=w) k.out (by go_grown)) h;clear h))
 all_goals (go_wp2_with fail;all_goals (go_ret;refine ⟨?_,i⟩;first | (rw [p.out];rfl) | (rw [show min n 7=7 by omega];rfl) | (rw [show min n 7=n by omega];rfl)))
structure RdS {S:Type} (T:Tkr S) (w:World) (q:Nat) (s:ByteArray) (ph:Bool) (r:Rd S):Prop where
 rd:cZ w q s r.at' r.opn T.fv
 mem:T.I r.st w
 good:T.G r.at' r.opn ph r.st
 inn:r.at'≤s.size
 few:r.opn≤r.at'
 room:T.N≤w.heap.size
section
variable {S:Type} {T:Tkr S} {w w':World} {q:Nat} {s:ByteArray} {ph:Bool} {r:Rd S}
theorem RdS.later (h:RdS T w q s ph r) (c:T.Ok) (d:q<T.N) (b:q≠T.p) (a:Bl w w'):RdS T w' q s ph r :=
 ⟨h.rd.later a,c.stay q _ _ _ d b h.mem (iY a),h.good,h.inn,h.few,zV h.room a.size⟩
end
def Kp (a:Nat):List PanicEntry:=[{ v:=.iface 308 (.int .i64 a),recovered:=false }]
def iS {S:Type} (T:Tkr S) (q:Nat) (s:ByteArray) (ph:Bool) (w:World) (x:Rd S×Bool) (e:Ending) (w':World):Prop:=Kept T.N (fun k=>k=T.p∨k=q) w w'∧((x.2=true∧e=.returned (.tuple #[])∧RdS T w' q s ph x.1)∨(x.2=false∧e=.panicked (Kp x.1.at')))
section
variable {S:Type} {T:Tkr S} {w w':World} {q:Nat} {s:ByteArray} {ph:Bool} {x:Rd S×Bool} {r:Rd S}
theorem iS.ok (h:x=(r,true)) (a:Kept T.N (fun k=>k=T.p∨k=q) w w') (b:RdS T w' q s ph r):iS T q s ph w x (.returned (.tuple #[])) w':=⟨a,Or.inl ⟨by rw [h],rfl,by rw [h];exact b⟩⟩
theorem iS.no (h:x=(r,false)) (a:Kept T.N (fun k=>k=T.p∨k=q) w w'):iS T q s ph w x (.panicked (Kp r.at')) w':=⟨a,Or.inr ⟨by rw [h],by rw [h]⟩⟩
end
theorem fu {s:ByteArray} {a b i:Nat} (h:i<b-a):byteN (s.extract a b) i=byteN s (a+i):=by
 unfold byteN;rw [Lib.extract_data];simp only [List.getD,List.getElem?_take,List.getElem?_drop];rw [if_pos h]
theorem nN {s:ByteArray} {a:Nat} (h:a<s.size):nextB s a=byteN s a:=by rw [nextB,if_neg (by omega)]
theorem Bq {s:ByteArray} {a o:Nat} (c:a≤s.size) (h : ¬ signI (nextB s a)<0):a+1≤s.size∧Stp o true (s.extract a (a+1)) o false:=by
 have b:a<s.size:=cE (fun e=>h (by rw [e];decide)) c
 refine ⟨b,Stp.sgn o _ (dL b) ?_⟩;rw [fu (by omega),Nat.add_zero,←nN b]
 omega
theorem RdS.word {S:Type} {T:Tkr S} {w w':World} {q n o o':Nat} {s:ByteArray} {ph ph':Bool} {r:Rd S} (i:T.Ok) (l:s.size≤T.M) (a:r.at'+n≤s.size) (e:T.G r.at' o ph r.st) (g:Stp o ph (s.extract r.at' (r.at'+n)) o' ph') (j:o'≤r.at'+n) (f:T.N≤w.heap.size)
  (b:cZ w' q s (r.at'+n) o' T.fv) (c:T.I (T.tk r.st (s.extract r.at' (r.at'+n))) w') (d:Kept T.N (fun k=>k=T.p∨k=q) w w'):RdS T w' q s ph' (wordR s T.tk n ⟨r.at',o',r.st⟩):=by
 refine ⟨b,c,?_,a,j,zV f d.size⟩;have h:=i.step r.at' o ph r.st _ o' ph' g e (by rw [dL a];omega)
 rw [dL a] at h;exact h
theorem Gu {S:Type} (T:Tkr S) (y:T.Ok) (q:Nat) (s:ByteArray) (r:Rd S) (w:World) (C:s.size≤T.M) (A:q<T.N) (i:q≠T.p) (j:RdS T w q s true r) :
  Calls Tryz.prog 257 #[.pointer (some ⟨q,0,none⟩)] w fun e w'=>iS T q s false w (cM s T.tk r) e w':=by
 have n:=iE q r.at' r.opn s T.fv w j.inn j.rd;have g:=pZ (nextB s r.at') (m4 s r.at').1 (m4 s r.at').2;have t:=aa j;have u:Hid T.Ok:=y
 by_cases h:signI (nextB s r.at')<0
 ·have m:cM s T.tk r=(r,false):=by rw [cM,if_pos h]
  have v:=aa m;clear m;generalize signI (nextB s r.at')=c at *;generalize nextB s r.at'=b at *;clear j y
  go_enter Tryz.func257,Tryz.ntmps257
  go_wp2_with fail;refine n.mono ?_;rintro e w1 ⟨rfl,d⟩;go_wp2_with fail;refine (g _).mono ?_;rintro e w2 ⟨rfl,f⟩;have l:=aa (ae d f);have a:=aa (t.out.later u.out A i l.out);clear d f;go_wp2_with fail;refine (qc q r.at' r.opn s T.fv w2 a.out.rd).mono ?_;rintro e w3 ⟨rfl,z⟩;go_wp2_with fail;exact ⟨rfl,iS.no v.out (aw (ae l.out z) t.out.room)⟩
 obtain ⟨D,E⟩:=Bq (o:=r.opn) j.inn h;have B:=aa E;have m:cM s T.tk r=(wordR s T.tk 1 r,true):=by rw [cM,if_neg h]
 have v:=aa m;clear m;have G:0≤signI (nextB s r.at'):=by omega
 generalize signI (nextB s r.at')=c at *;generalize nextB s r.at'=b at *;clear j y E h
 go_enter Tryz.func257,Tryz.ntmps257
 go_wp2_with fail;refine n.mono ?_;rintro e w1 ⟨rfl,d⟩;go_wp2_with fail;refine (g _).mono ?_;rintro e w2 ⟨rfl,f⟩;have l:=aa (ae d f);have a:=aa (t.out.later u.out A i l.out);clear d f;go_wp2_with fail;refine (iQ T u.out q r.at' r.opn r.opn 1 r.opn true false s r.st w2 C D A i a.out.room a.out.rd a.out.mem a.out.good B.out).mono ?_;rintro e w3 ⟨rfl,g1,g2,g3⟩;have F:Hid (Kept T.N (fun k=>k=T.p∨k=q) w w3):=(aw l.out t.out.room).trans g3
 have x:Hid (RdS T w3 q s false (wordR s T.tk 1 r)):=RdS.word (r:=r) (o':=r.opn) u.out C D a.out.good B.out (by have:=a.out.few;omega) a.out.room g1 g2 g3
 clear g1 g2 g3;go_wp2_with fail
 first | go_end0 | skip
 exact iS.ok v.out F.out x.out
section
variable {S:Type} {s:ByteArray} {tk:S→ByteArray→S} {r:Rd S}
theorem CN (a:r.at'<s.size) (h:nextB s r.at'=40):opensR s tk (s.size-r.at') r=opensR s tk (s.size-(r.at'+1)) (wordR s tk 1 ⟨r.at',r.opn+1,r.st⟩):=by
 rw [show s.size-r.at'=(s.size-(r.at'+1))+1 by omega,opensR,if_pos h]
theorem xZ (h:nextB s r.at'≠40):opensR s tk (s.size-r.at') r=r:=by
 cases e:s.size-r.at' with
 | zero=>rfl
 | succ k=>rw [opensR,if_neg h]
theorem oD {f:Nat} (a:0<r.opn) (h:nextB s r.at'=41):bw s tk (f+1) r=bw s tk f (wordR s tk 1 ⟨r.at',r.opn-1,r.st⟩):=by rw [bw,if_pos ⟨a,h⟩]
theorem gP {f:Nat} (h : ¬ (0<r.opn∧nextB s r.at'=41)):bw s tk f r=r:=by
 cases f with
 | zero=>rfl
 | succ k=>rw [bw,if_neg h]
theorem va (h:b9 (nextB s (bK s tk r).at')=true):aD s tk r=(bw s tk s.size (wordR s tk (digitsN s (bK s tk r).at') (bK s tk r)),true):=by rw [aD,if_pos h]
theorem vd (a:b9 (nextB s (bK s tk r).at')=false) (h:bG (nextB s (bK s tk r).at')=true):aD s tk r=(bw s tk s.size (wordR s tk (leadN bG (s.extract (bK s tk r).at' s.size)) (bK s tk r)),true):=by
 rw [aD,if_neg (by rw [a];decide),if_pos h]
theorem AZ (a:b9 (nextB s (bK s tk r).at')=false) (h:bG (nextB s (bK s tk r).at')=false):aD s tk r=(bK s tk r,false):=by
 rw [aD,if_neg (by rw [a];decide),if_neg (by rw [h];decide)]
end
theorem i6 (p:Int→Bool) (t:ByteArray):∀ f i,i≤leadTo p t f i∧leadTo p t f i≤i+f∧∀ j,i≤j→j<leadTo p t f i→p (byteN t j)=true
 | 0,i=>⟨zT,zT,fun j c a=>by simp only [leadTo] at a;omega⟩
 | f+1,i=>by
  by_cases h:p (byteN t i)=true
  ·obtain ⟨c,a,d⟩:=i6 p t f (i+1)
   rw [leadTo,if_pos h];refine ⟨by omega,by omega,fun j g b=>?_⟩
   by_cases e:i=j
   ·rw [←e];exact h
   exact d j (by omega) b
  rw [leadTo,if_neg h];exact ⟨zT,by omega,fun j c a=>by omega⟩
theorem Fl {p:Int→Bool} {t:ByteArray} (b:0<t.size) (h:p (byteN t 0)=true):1≤leadN p t:=by
 unfold leadN;obtain ⟨k,a⟩:∃ k,t.size=k+1:=⟨t.size-1,by omega⟩
 rw [a,leadTo,if_pos h];exact (i6 p t k 1).1
theorem iA {p:Int→Bool} {s:ByteArray} {a n:Nat} (d:a<s.size) (h:p (nextB s a)=true) (j:n≤leadN p (s.extract a s.size)):1≤leadN p (s.extract a s.size)∧a+n≤s.size∧∀ i,i<n→p (byteN (s.extract a (a+n)) i)=true:=by
 obtain ⟨_,f,c⟩:=i6 p (s.extract a s.size) (s.extract a s.size).size 0;have e:=iO s a;unfold leadN at *;have b:byteN (s.extract a s.size) 0=nextB s a:=by rw [fu (by omega),nN d];rfl
 refine ⟨Fl (by omega) (by rw [b];exact h),by omega,fun i g=>?_⟩
 have:=c i (zU) (by omega)
 rw [fu (by omega)] at this ⊢
 exact this
theorem kZ {s:ByteArray} {a o:Nat} (j:a≤s.size) (h:b9 (nextB s a)=true):a+digitsN s a≤s.size∧Stp o false (s.extract a (a+digitsN s a)) o true:=by
 have c:a<s.size:=cE (fun e=>by rw [e] at h;revert h;decide) j
 have b:1≤digitsN s a∧digitsN s a≤7∧digitsN s a≤leadN b9 (s.extract a s.size):=by
  have:=(iA (n:=0) c h (zU)).1;unfold digitsN
  split <;> omega
 obtain ⟨-,d,g⟩:=iA c h b.2.2;refine ⟨d,Stp.num o _ ?_ ?_ fun i f=>g i ?_⟩
 ·rw [dL d];exact b.1
 ·rw [dL d];exact b.2.1
 rw [dL d] at f;exact f
theorem pb {s:ByteArray} {a o:Nat} (j:a≤s.size) (h:bG (nextB s a)=true):a+leadN bG (s.extract a s.size)≤s.size∧Stp o false (s.extract a (a+leadN bG (s.extract a s.size))) o true:=by
 have c:a<s.size:=cE (fun e=>by rw [e] at h;revert h;decide) j
 obtain ⟨f,b,g⟩:=iA c h (zT);refine ⟨b,Stp.nam o _ ?_ fun i d=>g i ?_⟩
 ·rw [dL b];exact f
 rw [dL b] at d;exact d
theorem iG {s:ByteArray} {a o:Nat} (c:a≤s.size) (h:nextB s a=40):a+1≤s.size∧Stp o false (s.extract a (a+1)) (o+1) false:=by
 have b:a<s.size:=cE (by rw [h];decide) c
 refine ⟨b,Stp.opn o _ (dL b) ?_⟩;rw [fu (by omega),Nat.add_zero,←nN b]
 exact h
theorem gy {s:ByteArray} {a o:Nat} (c:a≤s.size) (h:nextB s a=41):a+1≤s.size∧Stp (o+1) true (s.extract a (a+1)) o true:=by
 have b:a<s.size:=cE (by rw [h];decide) c
 refine ⟨b,Stp.cls o _ (dL b) ?_⟩;rw [fu (by omega),Nat.add_zero,←nN b]
 exact h
theorem RdS.open {S:Type} {T:Tkr S} {w:World} {q:Nat} {s:ByteArray} {ph:Bool} {r:Rd S} (c:T.Ok) (d:q<T.N) (b:q≠T.p) (h:RdS T w q s ph r) (o:Nat) :
  cZ (w.setCell ⟨q,2,none⟩ (.int .i64 o)) q s r.at' o T.fv∧T.I r.st (w.setCell ⟨q,2,none⟩ (.int .i64 o))∧T.N≤(w.setCell ⟨q,2,none⟩ (.int .i64 o)).heap.size∧Kept T.N (fun k=>k=T.p∨k=q) w (w.setCell ⟨q,2,none⟩ (.int .i64 o)):=by
 have a:w.grownBy (w.setCell ⟨q,2,none⟩ (.int .i64 o)) (some q):=dE (dg w _);exact ⟨h.rd.set2 o,c.stay q _ _ _ d b h.mem a,zV h.room a.size,eE a h.room (Or.inr rfl)⟩
theorem m7 {S:Type} (T:Tkr S) (hT:T.Ok) (q:Nat) (s:ByteArray) (r:Rd S) (w:World) (hs:s.size≤T.M) (B:q<T.N) (d:q≠T.p) (hR:RdS T w q s false r) :
  Calls Tryz.prog 256 #[.pointer (some ⟨q,0,none⟩)] w fun e w'=>iS T q s true w (aD s T.tk r) e w':=by
 have HR:=aa hR;have t:Hid T.Ok:=hT;have hsm:=hT.small;clear hR hT
 go_enter Tryz.func256,Tryz.ntmps256
 go_wp2_with fail
 go_loopg [] (s.size-r.at') (fun g wr => ∃ (a:Rd S),g=s.size-a.at'∧opensR s T.tk (s.size-a.at') a=bK s T.tk r∧RdS T wr q s false a∧Kept T.N (fun k=>k=T.p∨k=q) w wr)
 case atStart=>exact ⟨r,rfl,rfl,HR.out,Kept.refl _ _ _⟩
 case round =>
  obtain ⟨a,rfl,ho,V,hk⟩:=hrel;have HO:=aa ho;have C:=aa V;have HK1:=aa hk;have X:=iE q a.at' a.opn s T.fv wr V.inn V.rd;have hfew:=V.few;have H:=V.inn;clear ho hk V
  by_cases O:nextB s a.at'=40
  ·obtain ⟨k1,k2⟩:=iG (o:=a.opn) H O
   have HS:=aa k2;have HN:Hid (opensR s T.tk (s.size-a.at') a=opensR s T.tk (s.size-(a.at'+1)) (wordR s T.tk 1 ⟨a.at',a.opn+1,a.st⟩)):=CN k1 O;rw [O] at X;clear O k2;go_wp2_with fail;refine X.mono ?_;rintro e w1 ⟨rfl,P⟩;have L:=aa (C.out.later t.out B d P);have HK2:=aa (HK1.out.trans (aw P C.out.room));have c2:=L.out.rd.c2;have f2:=L.out.rd.fr 2;obtain ⟨o1,U⟩:=az (a.opn+1);have hsum:(a.opn:Int)+1=(o1:Int):=by omega
   have hbig:(o1:Int)≤4611686018427387904:=by omega
   obtain ⟨W,hW⟩:=az (w1.setCell ⟨q,2,none⟩ (.int .i64 (o1:Int)));obtain ⟨g1,g2,g3,g4⟩:=RdS.open t.out B d L.out o1;rw [hW] at g1 g2 g3 g4;have i:Hid (cZ W q s a.at' o1 T.fv∧T.I a.st W∧T.N≤W.heap.size∧Kept T.N (fun k=>k=T.p∨k=q) w1 W):=⟨g1,g2,g3,g4⟩
   rw [U] at HS HN;clear P X g1 g2 g3 g4;go_wp2_with fail;refine (iQ T t.out q a.at' a.opn o1 1 o1 false false s a.st W hs k1 B d i.out.2.2.1 i.out.1 i.out.2.1 C.out.good HS.out).mono ?_;rintro e w3 ⟨rfl,g1,g2,g3⟩;have Y:=aa ((HK2.out.trans i.out.2.2.2).trans g3);have F:Hid (RdS T w3 q s false (wordR s T.tk 1 ⟨a.at',o1,a.st⟩)):=RdS.word t.out hs k1 C.out.good HS.out (by omega) i.out.2.2.1 g1 g2 g3
   clear g1 g2 g3;go_wp2_with fail
   go_roundg (s.size-(a.at'+1))
   case measure=>omega
   case rel=>exact ⟨wordR s T.tk 1 ⟨a.at',o1,a.st⟩,rfl,by rw [←HO.out,HN.out];rfl,F.out,Y.out⟩
  have E:Hid (bK s T.tk r=a):=by show _=_;rw [←HO.out];exact xZ O
  have h40':(nextB s a.at' == 40)=false:=by simpa using O
  obtain ⟨c,hc⟩:=az (nextB s a.at');have HC:=aa hc;rw [hc] at X h40';clear O hc;go_wp2_with fail;refine X.mono ?_;rintro e w1 ⟨rfl,P⟩;have L:=aa (C.out.later t.out B d P);have HK2:=aa (HK1.out.trans (aw P C.out.room));have K5:=iE q a.at' a.opn s T.fv w1 H L.out.rd;rw [HC.out] at K5;clear P X;go_wp2_with fail;refine K5.mono ?_;rintro e w2 ⟨rfl,hb2⟩;have F:=aa (L.out.later t.out B d hb2);have Y:=aa (HK2.out.trans (aw hb2 L.out.room));clear hb2 K5;have G:=ro c;have R:=islet_any c;cases hd:b9 c
  ·rw [hd] at G
   cases hl:bG c
   ·rw [hl] at R
    have HD:Hid (aD s T.tk r=(a,false)):=by
     have h:=AZ (s:=s) (tk:=T.tk) (r:=r) (by rw [E.out,HC.out];exact hd) (by rw [E.out,HC.out];exact hl)
     rw [E.out] at h;exact h
    clear hd hl;go_wp2_with fail;refine (G _).mono ?_;rintro e w3 ⟨rfl,z⟩;have D:=aa (F.out.later t.out B d z);have Z:=aa (Y.out.trans (aw z F.out.room));clear z G;go_wp2_with fail;refine (R _).mono ?_;rintro e w4 ⟨rfl,A⟩;have x:=aa (D.out.later t.out B d A);have u9:=aa (Z.out.trans (aw A D.out.room));clear A R;go_wp2_with fail;refine (qc q a.at' a.opn s T.fv w4 x.out.rd).mono ?_;rintro e w5 ⟨rfl,hb5⟩;go_wp2_with fail;exact ⟨rfl,iS.no HD.out (u9.out.trans (aw hb5 x.out.room))⟩
   rw [hl] at R;have HD:Hid (aD s T.tk r=(bw s T.tk s.size (wordR s T.tk (leadN bG (s.extract a.at' s.size)) a),true)):=by
    have h:=vd (s:=s) (tk:=T.tk) (r:=r) (by rw [E.out,HC.out];exact hd) (by rw [E.out,HC.out];exact hl)
    rw [E.out] at h;exact h
   obtain ⟨k1,k2⟩:=pb (o:=a.opn) H (by rw [HC.out];exact hl)
   have HS:=aa k2;have HL:Hid (∀ w',Rt 277 #[.string (s.extract a.at' s.size),.func (.func 254) #[] #[]] w' (.int .i64 (leadN bG (s.extract a.at' s.size)))):=fun w'=>Ct _ w' (by rw [iO];omega)
   have ha':(a.at':Int)≤(s.size:Int):=by omega
   have hs':(s.size:Int)≤4611686018427387904:=by omega
   clear k2 hd hl;go_wp2_with fail;refine (G _).mono ?_;rintro e w3 ⟨rfl,z⟩;have D:=aa (F.out.later t.out B d z);have Z:=aa (Y.out.trans (aw z F.out.room));clear z G;go_wp2_with fail;refine (R _).mono ?_;rintro e w4 ⟨rfl,A⟩;have x:=aa (D.out.later t.out B d A);have u9:=aa (Z.out.trans (aw A D.out.room));have c0:=x.out.rd.c0;have c1:=x.out.rd.c1;clear A R;generalize leadN bG (s.extract a.at' s.size)=n at *;have HWd:Hid (∀ w',Bl w4 w'→Calls Tryz.prog 274 #[.pointer (some ⟨q,0,none⟩),.int .i64 n] w' fun e w5=>e=.returned (.tuple #[])∧Kept T.N (fun k=>k=T.p∨k=q) w w5∧RdS T w5 q s true (wordR s T.tk n a)):=by
    intro w' hb;have h5:=x.out.later t.out B d hb;refine (iQ T t.out q a.at' a.opn a.opn n a.opn false true s a.st w' hs k1 B d h5.room h5.rd h5.mem C.out.good HS.out).mono ?_;rintro e w5 ⟨rfl,g1,g2,g3⟩;exact ⟨rfl,(u9.out.trans (aw hb x.out.room)).trans g3,RdS.word (r:=a) (o':=a.opn) t.out hs k1 C.out.good HS.out (by omega) h5.room g1 g2 g3⟩
   go_wp2_with fail
   go_region_law ((first
    | (go_simp;refine (HL.out _).mono ?_;rintro e x5 ⟨rfl,hb5⟩;have hN5:=ae (W0:=w4) (by go_grown) hb5;clear hb5)
    | (go_simp;refine (HWd.out _ (ae hN5 (by go_grown))).mono ?_;rintro e x6 ⟨rfl,hK6,hR6⟩)))
   all_goals
    have HK6:=aa hK6;have HR6:=aa hR6;clear hK6 hR6 HWd HL;generalize wordR s T.tk n a=r4 at *;go_wp2_with fail
    go_loopg [] s.size (fun g wj => ∃ (b:Rd S),bw s T.tk g b=bw s T.tk s.size r4∧s.size-b.at'≤g∧RdS T wj q s true b∧Kept T.N (fun k=>k=T.p∨k=q) w wj)
    case atStart=>exact ⟨r4,rfl,by omega,HR6.out,HK6.out⟩
    case round =>
     obtain ⟨b,K2,hg5,l,K4⟩:=hrel;have HQ:=aa K2;have y:=aa l;have J:=aa K4;have c2:=l.rd.c2;have hfew5:=l.few;have Q:=l.inn;have m:=iE q b.at' b.opn s T.fv wr l.inn l.rd;clear K2 l K4
     by_cases ho0:b.opn=0
     ·have HE:Hid (aD s T.tk r=(b,true)):=by show _=_;rw [HD.out,←HQ.out,gP (by omega)]
      have K6:(b.opn:Int)=0:=by omega
      rw [K6] at c2;go_wp2_with fail
      first | go_end0 | skip
      exact iS.ok HE.out J.out y.out
     have K6:0<(b.opn:Int):=by omega
     by_cases u:nextB s b.at'=41
     ·obtain ⟨o1,U⟩:∃ o1,b.opn=o1+1:=⟨b.opn-1,by omega⟩
      obtain ⟨m1,m2⟩:=gy (o:=o1) Q u;have K0:=aa m2;obtain ⟨g',K3⟩:∃ g',gk=g'+1:=⟨gk-1,by omega⟩
      have HN5:Hid (bw s T.tk (g'+1) b=bw s T.tk g' (wordR s T.tk 1 ⟨b.at',o1,b.st⟩)):=by
       have h:=oD (tk:=T.tk) (f:=g') (r:=b) (s:=s) (by omega) u
       rw [show b.opn-1=o1 by omega] at h
       exact h
      have HG:=aa K3;rw [u] at m;clear u m2 K3;go_wp2_with fail;refine m.mono ?_;rintro e x1 ⟨rfl,v⟩;have j:=aa (y.out.later t.out B d v);have K:=aa (J.out.trans (aw v y.out.room));have d2:=j.out.rd.c2;have f2:=j.out.rd.fr 2;have hsum:(b.opn:Int)-1=(o1:Int):=by omega
      have hbig:(o1:Int)≤4611686018427387904:=by omega
      obtain ⟨W,hW⟩:=az (x1.setCell ⟨q,2,none⟩ (.int .i64 (o1:Int)));obtain ⟨g1,g2,g3,g4⟩:=RdS.open t.out B d j.out o1;rw [hW] at g1 g2 g3 g4;have i:Hid (cZ W q s b.at' o1 T.fv∧T.I b.st W∧T.N≤W.heap.size∧Kept T.N (fun k=>k=T.p∨k=q) x1 W):=⟨g1,g2,g3,g4⟩
      clear v m g1 g2 g3 g4 c2;go_wp2_with fail;refine (iQ T t.out q b.at' (o1+1) o1 1 o1 true true s b.st W hs m1 B d i.out.2.2.1 i.out.1 i.out.2.1 (by rw [←U];exact j.out.good) K0.out).mono ?_
      rintro e x3 ⟨rfl,g1,g2,g3⟩;have HKc:=aa ((K.out.trans i.out.2.2.2).trans g3);have HRc:Hid (RdS T x3 q s true (wordR s T.tk 1 ⟨b.at',o1,b.st⟩)):=RdS.word t.out hs m1 (by rw [←U];exact j.out.good) K0.out (by omega) i.out.2.2.1 g1 g2 g3
      clear g1 g2 g3;go_wp2_with fail
      go_roundg g'
      case measure=>have:=HG.out;omega
      case rel=>exact ⟨wordR s T.tk 1 ⟨b.at',o1,b.st⟩,by rw [←HN5.out,←HG.out,HQ.out],by have:=HG.out;show s.size-(b.at'+1)≤g';omega,HRc.out,HKc.out⟩
     have HE:Hid (aD s T.tk r=(b,true)):=by show _=_;rw [HD.out,←HQ.out,gP (fun h=>u h.2)]
     have h41':(nextB s b.at' == 41)=false:=by simpa using u
     generalize nextB s b.at'=c5 at *;go_wp2_with fail;refine m.mono ?_;rintro e x1 ⟨rfl,v⟩;have j:=aa (y.out.later t.out B d v);have K:=aa (J.out.trans (aw v y.out.room));go_wp2_with fail
     first | go_end0 | skip
     exact iS.ok HE.out K.out j.out
  rw [hd] at G;have HD:Hid (aD s T.tk r=(bw s T.tk s.size (wordR s T.tk (digitsN s a.at') a),true)):=by
   have h:=va (s:=s) (tk:=T.tk) (r:=r) (by rw [E.out,HC.out];exact hd)
   rw [E.out] at h;exact h
  obtain ⟨k1,k2⟩:=kZ (o:=a.opn) H (by rw [HC.out];exact hd)
  have HS:=aa k2;clear k2 R hd;go_wp2_with fail;refine (G _).mono ?_;rintro e w3 ⟨rfl,z⟩;have D:=aa (F.out.later t.out B d z);have Z:=aa (Y.out.trans (aw z F.out.room));have hdn:=vx q a.at' a.opn s T.fv w3 (by omega) H D.out.rd
  clear z G;generalize digitsN s a.at'=n at *;go_wp2_with fail;refine hdn.mono ?_;rintro e w4 ⟨rfl,A⟩;have x:=aa (D.out.later t.out B d A);have u9:=aa (Z.out.trans (aw A D.out.room));clear A hdn;go_wp2_with fail;refine (iQ T t.out q a.at' a.opn a.opn n a.opn false true s a.st w4 hs k1 B d x.out.room x.out.rd x.out.mem C.out.good HS.out).mono ?_;rintro e w5 ⟨rfl,g1,g2,g3⟩;have HK6:=aa (u9.out.trans g3);have HR6:Hid (RdS T w5 q s true (wordR s T.tk n a)):=RdS.word (r:=a) (o':=a.opn) t.out hs k1 C.out.good HS.out (by omega) x.out.room g1 g2 g3
  clear g1 g2 g3;generalize wordR s T.tk n a=r4 at *;go_wp2_with fail
  go_loopg [] s.size (fun g wj => ∃ (b:Rd S),bw s T.tk g b=bw s T.tk s.size r4∧s.size-b.at'≤g∧RdS T wj q s true b∧Kept T.N (fun k=>k=T.p∨k=q) w wj)
  case atStart=>exact ⟨r4,rfl,by omega,HR6.out,HK6.out⟩
  case round =>
   obtain ⟨b,K2,hg5,l,K4⟩:=hrel;have HQ:=aa K2;have y:=aa l;have J:=aa K4;have c2:=l.rd.c2;have hfew5:=l.few;have Q:=l.inn;have m:=iE q b.at' b.opn s T.fv wr l.inn l.rd;clear K2 l K4
   by_cases ho0:b.opn=0
   ·have HE:Hid (aD s T.tk r=(b,true)):=by show _=_;rw [HD.out,←HQ.out,gP (by omega)]
    have K6:(b.opn:Int)=0:=by omega
    rw [K6] at c2;go_wp2_with fail
    first | go_end0 | skip
    exact iS.ok HE.out J.out y.out
   have K6:0<(b.opn:Int):=by omega
   by_cases u:nextB s b.at'=41
   ·obtain ⟨o1,U⟩:∃ o1,b.opn=o1+1:=⟨b.opn-1,by omega⟩
    obtain ⟨m1,m2⟩:=gy (o:=o1) Q u;have K0:=aa m2;obtain ⟨g',K3⟩:∃ g',gk=g'+1:=⟨gk-1,by omega⟩
    have HN5:Hid (bw s T.tk (g'+1) b=bw s T.tk g' (wordR s T.tk 1 ⟨b.at',o1,b.st⟩)):=by
     have h:=oD (tk:=T.tk) (f:=g') (r:=b) (s:=s) (by omega) u
     rw [show b.opn-1=o1 by omega] at h
     exact h
    have HG:=aa K3;rw [u] at m;clear u m2 K3;go_wp2_with fail;refine m.mono ?_;rintro e x1 ⟨rfl,v⟩;have j:=aa (y.out.later t.out B d v);have K:=aa (J.out.trans (aw v y.out.room));have d2:=j.out.rd.c2;have f2:=j.out.rd.fr 2;have hsum:(b.opn:Int)-1=(o1:Int):=by omega
    have hbig:(o1:Int)≤4611686018427387904:=by omega
    obtain ⟨W,hW⟩:=az (x1.setCell ⟨q,2,none⟩ (.int .i64 (o1:Int)));obtain ⟨g1,g2,g3,g4⟩:=RdS.open t.out B d j.out o1;rw [hW] at g1 g2 g3 g4;have i:Hid (cZ W q s b.at' o1 T.fv∧T.I b.st W∧T.N≤W.heap.size∧Kept T.N (fun k=>k=T.p∨k=q) x1 W):=⟨g1,g2,g3,g4⟩
    clear v m g1 g2 g3 g4 c2;go_wp2_with fail;refine (iQ T t.out q b.at' (o1+1) o1 1 o1 true true s b.st W hs m1 B d i.out.2.2.1 i.out.1 i.out.2.1 (by rw [←U];exact j.out.good) K0.out).mono ?_
    rintro e x3 ⟨rfl,g1,g2,g3⟩;have HKc:=aa ((K.out.trans i.out.2.2.2).trans g3);have HRc:Hid (RdS T x3 q s true (wordR s T.tk 1 ⟨b.at',o1,b.st⟩)):=RdS.word t.out hs m1 (by rw [←U];exact j.out.good) K0.out (by omega) i.out.2.2.1 g1 g2 g3
    clear g1 g2 g3;go_wp2_with fail
    go_roundg g'
    case measure=>have:=HG.out;omega
    case rel=>exact ⟨wordR s T.tk 1 ⟨b.at',o1,b.st⟩,by rw [←HN5.out,←HG.out,HQ.out],by have:=HG.out;show s.size-(b.at'+1)≤g';omega,HRc.out,HKc.out⟩
   have HE:Hid (aD s T.tk r=(b,true)):=by show _=_;rw [HD.out,←HQ.out,gP (fun h=>u h.2)]
   have h41':(nextB s b.at' == 41)=false:=by simpa using u
   generalize nextB s b.at'=c5 at *;go_wp2_with fail;refine m.mono ?_;rintro e x1 ⟨rfl,v⟩;have j:=aa (y.out.later t.out B d v);have K:=aa (J.out.trans (aw v y.out.room));go_wp2_with fail
   first | go_end0 | skip
   exact iS.ok HE.out K.out j.out
end Go.Proofs.YtohgnbgamfepoaaGreatDoor
